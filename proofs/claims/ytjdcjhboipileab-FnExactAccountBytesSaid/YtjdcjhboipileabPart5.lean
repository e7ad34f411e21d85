/- The proof's texts, part 5. -/
import Derived.Test.YtjdcjhboipileabPart2
import Derived.Test.YtjdcjhboipileabPart4
import Derived.Lib.Bytealg
import Derived.Deep.RegionHeld3
import Derived.Test.YtjdcjhboipileabPart1
import Derived.Shelf.Abstract

/- What may be: boxes and accounts, as plain data. -/
namespace Go.Proofs.Ytjdcjhboipileab

/-- The bytes of a list of numbers; which of two comes first. -/
def bts (l : List Int) : List UInt8 := l.map fun n => UInt8.ofNat n.toNat
def lessB (l m : List Int) : Bool := Op.bytesLess (bts l) (bts m)
theorem less_cmp : ∀ (a b : List UInt8), decide (0 ≤ Lib.compareBytes a b) = !Op.bytesLess a b
  | [], [] => rfl
  | [], _ :: _ => rfl
  | _ :: _, [] => rfl
  | a :: x, b :: y => by
    have ih := less_cmp x y
    unfold Lib.compareBytes Op.bytesLess
    by_cases h1 : a < b
    · simp [h1]
    · by_cases h2 : b < a
      · have hne : (a == b) = false := by simp; intro e; subst e; exact absurd h2 (UInt8.lt_irrefl _)
        simp [h1, h2, hne]
      · have he : a = b := UInt8.le_antisymm (UInt8.not_lt.1 h2) (UInt8.not_lt.1 h1)
        subst he
        simp only [h1, if_false, decide_false, Bool.false_or, BEq.rfl, Bool.true_and]
        exact ih

theorem rangeAll_yes {n : Nat} {f : Nat → Bool} (h : ∀ j, j < n → f j = true) : (List.range n).all f = true := by
  rw [List.all_eq_true]; intro j hj; exact h j (List.mem_range.1 hj)
theorem rangeAll_no {n : Nat} {f : Nat → Bool} (j : Nat) (hj : j < n) (h : f j = false) : (List.range n).all f = false := by
  rw [List.all_eq_false]; exact ⟨j, List.mem_range.2 hj, by simp [h]⟩
theorem and_false_of {a b : Bool} (h : b = false) : (a && b) = false := by rw [h]; cases a <;> rfl
theorem and_of {a b c : Bool} (h : a = true) (h' : b = c) : (a && b) = c := by rw [h, h']; rfl

def prevI (l : List Int) : Nat → Int
  | 0 => 0
  | i + 1 => l.getD i 0
def seenAt (l : List Int) (i : Nat) : Bool := inB (l.getD i 0) (prevI l i + 1) 1000000
def seenB (l : List Int) : Bool := decide (l.length ≤ 60) && (List.range l.length).all (seenAt l)
theorem prevI_ok {l : List Int} {k : Nat} (hk : k ≤ l.length) (h : ∀ j, j < k → seenAt l j = true) : 0 ≤ prevI l k ∧ prevI l k ≤ 1000000 ∧ (0 < k → 1 ≤ prevI l k) := by
  induction k with
  | zero => simp [prevI]
  | succ k ih =>
    have h1 := ih (by omega) (fun j hj => h j (by omega))
    have h2 := h k (by omega)
    simp only [seenAt, inB, Bool.and_eq_true, decide_eq_true_eq] at h2
    simp only [prevI]
    omega

def prevU (l : List MailD) : Nat → Int
  | 0 => 0
  | i + 1 => match l[i]? with | some m => m.uid | none => 0
def mailAt (b : BoxD) (i : Nat) : Bool := match b.mails[i]? with
  | some m => inB m.uid (prevU b.mails i + 1) (b.next - 1) && (inB m.flags 0 31 && (inB m.seq 1 b.seq && textB m.text))
  | none => true
def mailsB (b : BoxD) : Bool := decide (b.mails.length ≤ 12) && (List.range b.mails.length).all (mailAt b)
theorem prevU_ok {b : BoxD} {k : Nat} (hn : b.next ≤ 1000000) (hk : k ≤ b.mails.length) (h : ∀ j, j < k → mailAt b j = true) : 0 ≤ prevU b.mails k ∧ prevU b.mails k ≤ 1000000 := by
  induction k with
  | zero => simp [prevU]
  | succ k ih =>
    have h1 := ih (by omega) (fun j hj => h j (by omega))
    have h2 := h k (by omega)
    obtain ⟨m, hm⟩ : ∃ m, b.mails[k]? = some m := ⟨b.mails[k]'(by omega), List.getElem?_eq_getElem (by omega)⟩
    simp only [mailAt, hm, inB, Bool.and_eq_true, decide_eq_true_eq] at h2
    simp only [prevU, hm]
    omega

def minS (b : BoxD) : Nat → Int
  | 0 => max 1 b.lost
  | i + 1 => match b.gones[i]? with | some g => g.seq | none => 0
def goneAt (b : BoxD) (i : Nat) : Bool := match b.gones[i]? with
  | some g => inB g.uid 1 (b.next - 1) && (inB g.seq (minS b i) b.seq && (!(b.mails.any fun m => decide (m.uid = g.uid)) && !((b.gones.take i).any fun o => decide (o.uid = g.uid))))
  | none => true
def gonesB (b : BoxD) : Bool := decide (b.gones.length ≤ 40) && (List.range b.gones.length).all (goneAt b)
theorem minS_ok {b : BoxD} {k : Nat} (hk : k ≤ b.gones.length) (h : ∀ j, j < k → goneAt b j = true) : 1 ≤ minS b k ∧ b.lost ≤ minS b k := by
  induction k with
  | zero => simp only [minS]; omega
  | succ k ih =>
    have h1 := ih (by omega) (fun j hj => h j (by omega))
    have h2 := h k (by omega)
    obtain ⟨m, hm⟩ : ∃ m, b.gones[k]? = some m := ⟨b.gones[k]'(by omega), List.getElem?_eq_getElem (by omega)⟩
    simp only [goneAt, hm, inB, Bool.and_eq_true, decide_eq_true_eq] at h2
    simp only [minS, hm]
    omega

def boxB (b : BoxD) (valid : Int) : Bool := nameB b.name && (inB b.valid 1 valid && (inB b.next 1 1000000 && (inB b.seq 0 1000000 && (inB b.lost 0 b.seq && (mailsB b && gonesB b)))))
def nameAt (l : List BoxD) (i : Nat) : List Int := match l[i]? with | some b => b.name | none => []
def aheadB (l : List BoxD) (b : BoxD) : Nat → Bool
  | 0 => true
  | i + 1 => lessB (nameAt l i) b.name
def boxAt (a : AccD) (i : Nat) : Bool := match a.boxes[i]? with
  | some b => boxB b a.valid && (aheadB a.boxes b i && !((a.boxes.take i).any fun o => decide (o.valid = b.valid)))
  | none => true
def accB (a : AccD) : Bool := inB a.valid 0 1000000 && (decide (a.boxes.length ≤ 4) && (seenB a.seen && (List.range a.boxes.length).all (boxAt a)))

end Go.Proofs.Ytjdcjhboipileab

/- Accounts as bytes, on lists. -/
namespace Go.Proofs.Ytjdcjhboipileab
open Go.RowKit

def numB (n : Int) : List Int := putL [] n
def txB (t : List Int) : List Int := putTL [] t
theorem putL_eq (b : List Int) (n : Int) : putL b n = b ++ numB n := by
  unfold numB putL
  split <;> simp
theorem putTL_eq (b t : List Int) : putTL b t = b ++ txB t := by
  unfold txB putTL
  split
  · simp
  · rw [putL_eq b, putL_eq []]; simp
theorem numB_len (n : Int) : (numB n).length ≤ 5 := by have := putL_length [] n; simp [numB]; simpa using this.2
theorem txB_len (t : List Int) : (txB t).length ≤ 35 := by have := putTL_length [] t; simpa [txB] using this
def numsB (l : List Int) : List Int := l.flatMap numB
def mailBs (m : MailD) : List Int := numB m.uid ++ (numB m.flags ++ (numB m.seq ++ txB m.text))
def goneBs (g : GoneD) : List Int := numB g.uid ++ numB g.seq
def boxBs (x : BoxD) : List Int := txB x.name ++ (numB x.valid ++ (numB x.next ++ (numB x.seq ++ (numB x.lost ++ (numB x.mails.length ++ (x.mails.flatMap mailBs ++ (numB x.gones.length ++ x.gones.flatMap goneBs)))))))
def accBs (a : AccD) : List Int := numB a.valid ++ (numB a.boxes.length ++ (a.boxes.flatMap boxBs ++ (numB a.seen.length ++ numsB a.seen)))
theorem flat_len {α : Type} (f : α → List Int) (c : Nat) (l : List α) (h : ∀ x, x ∈ l → (f x).length ≤ c) : (l.flatMap f).length ≤ c * l.length := by
  induction l with
  | nil => simp
  | cons x l ih =>
    have h1 := h x (by simp)
    have h2 := ih fun y hy => h y (by simp [hy])
    simp only [List.flatMap_cons, List.length_append, List.length_cons, Nat.mul_add]
    omega
theorem flat_step {α : Type} (f : α → List Int) {l : List α} {j : Nat} {x : α} (h : l[j]? = some x) : (l.take (j + 1)).flatMap f = (l.take j).flatMap f ++ f x := by
  have hj : j < l.length := (List.getElem?_eq_some_iff.1 h).1
  rw [List.take_succ_eq_append_getElem hj, (List.getElem?_eq_some_iff.1 h).2]
  simp
theorem mailBs_len (m : MailD) : (mailBs m).length ≤ 50 := by
  have h1 := numB_len m.uid
  have h2 := numB_len m.flags
  have h3 := numB_len m.seq
  have h4 := txB_len m.text
  simp only [mailBs, List.length_append]
  omega
theorem goneBs_len (m : GoneD) : (goneBs m).length ≤ 10 := by
  have h1 := numB_len m.uid
  have h3 := numB_len m.seq
  simp only [goneBs, List.length_append]
  omega
theorem mails_len (l : List MailD) : (l.flatMap mailBs).length ≤ 50 * l.length := flat_len _ _ _ fun _ _ => mailBs_len _
theorem gones_len (l : List GoneD) : (l.flatMap goneBs).length ≤ 10 * l.length := flat_len _ _ _ fun _ _ => goneBs_len _
theorem nums_len (l : List Int) : (numsB l).length ≤ 5 * l.length := flat_len _ _ _ fun _ _ => numB_len _
theorem boxBs_len (x : BoxD) (h1 : x.mails.length ≤ 12) (h2 : x.gones.length ≤ 40) : (boxBs x).length ≤ 1100 := by
  have k0 := txB_len x.name
  have k1 := numB_len x.valid
  have k2 := numB_len x.next
  have k3 := numB_len x.seq
  have k4 := numB_len x.lost
  have k5 := numB_len x.mails.length
  have k6 := numB_len x.gones.length
  have k7 := mails_len x.mails
  have k8 := gones_len x.gones
  simp only [boxBs, List.length_append]
  omega
theorem boxes_len (l : List BoxD) (h : ∀ x, x ∈ l → x.mails.length ≤ 12 ∧ x.gones.length ≤ 40) : (l.flatMap boxBs).length ≤ 1100 * l.length := flat_len _ _ _ fun x hx => boxBs_len x (h x hx).1 (h x hx).2
theorem accB_small {a : AccD} (h : accB a = true) : a.boxes.length ≤ 4 ∧ (∀ x, x ∈ a.boxes → x.mails.length ≤ 12 ∧ x.gones.length ≤ 40) := by
  simp only [accB, Bool.and_eq_true, decide_eq_true_eq, List.all_eq_true, List.mem_range] at h
  refine ⟨h.2.1, fun x hx => ?_⟩
  obtain ⟨i, hi, rfl⟩ := List.mem_iff_getElem.1 hx
  have := h.2.2.2 i hi
  simp only [boxAt, List.getElem?_eq_getElem hi, boxB, mailsB, gonesB, Bool.and_eq_true, decide_eq_true_eq] at this
  exact ⟨this.1.2.2.2.2.2.1.1, this.1.2.2.2.2.2.2.1⟩

/-- What AccountBytes answers. -/
def outB (x : AccD) : List Int := match accB x with
  | true => accBs x
  | false => []
theorem accB_seen {a : AccD} (h : accB a = true) : a.seen.length ≤ 60 := by
  simp only [accB, seenB, Bool.and_eq_true, decide_eq_true_eq] at h
  exact h.2.2.1.1

theorem outB_len (x : AccD) : (outB x).length ≤ 10000 := by
  cases h : accB x with
  | false => simp [outB, h]
  | true =>
    have h1 := accB_small h
    have h2 := accB_seen h
    have k0 := numB_len x.valid
    have k1 := numB_len x.boxes.length
    have k2 := numB_len x.seen.length
    have k3 := boxes_len x.boxes h1.2
    have k4 := nums_len x.seen
    simp only [outB, h, accBs, List.length_append]
    omega

end Go.Proofs.Ytjdcjhboipileab

/- PutNum, PutText of package spec, what they answer told as what stands behind. -/
namespace Go.Proofs.Ytjdcjhboipileab
open Go.RowKit

theorem specPutNum_b (v : Value) (l : List Int) (n : Int) (w : World) (hv : Bs w v l) (hl : l.length ≤ 2000000) (hn : I64 n) :
    Calls Try.prog 28 #[v, .int .i64 n] w fun e w' => ∃ u, e = .returned u ∧ Row w' w.heap.size w'.heap.size u (l ++ numB n) ∧ Below w.heap.size w w' := by
  refine (specPutNum_r v l n w hv hl hn.1 hn.2).mono ?_
  rintro e w' ⟨u, rfl, R, B⟩
  rw [putL_eq] at R
  exact ⟨u, rfl, R, B⟩
theorem specPutText_b (v u : Value) (l t : List Int) (w : World) (hv : Bs w v l) (hu : Bs w u t) (hl : l.length ≤ 2000000) (ht : t.length ≤ 2000000) :
    Calls Try.prog 49 #[v, u] w fun e w' => ∃ r, e = .returned r ∧ Row w' w.heap.size w'.heap.size r (l ++ txB t) ∧ Below w.heap.size w w' := by
  refine (specPutText_r v u l t w hv hu hl ht).mono ?_
  rintro e w' ⟨u, rfl, R, B⟩
  rw [putTL_eq] at R
  exact ⟨u, rfl, R, B⟩

end Go.Proofs.Ytjdcjhboipileab

/- What l4box of package spec do. -/
namespace Go.Proofs.Ytjdcjhboipileab
open Go.RowKit
set_option maxRecDepth 100000
set_option linter.unusedVariables false
set_option linter.unusedSimpArgs false

set_option maxRecDepth 100000 in
set_option maxHeartbeats 4000000 in
theorem l4box_r (bv v : Value) (l : List Int) (x : BoxD) (w : World) (hb : Bs w bv l) (hv : BoxV w v x) (hl : l.length ≤ 100000) (q1 : x.mails.length ≤ 12) (q2 : x.gones.length ≤ 40) (hz : szX x ≤ 2000000) :
    Calls Try.prog 29 #[bv, v] w fun e w' => ∃ u, e = .returned u ∧ Row w' w.heap.size w'.heap.size u (l ++ boxBs x) ∧ Below w.heap.size w w' := by
  have HB : Hid (∀ wi, Below w.heap.size w wi → Bs wi bv l) := fun wi h => hb.below h
  have hz0 : x.name.length ≤ 2000000 := by simp only [szX] at hz; omega
  have hz1 : szM x.mails ≤ 2000000 := by simp only [szX] at hz; omega
  obtain ⟨va, vn, vc, rfl⟩ := hb.form3
  clear hb hz
  obtain ⟨u0, u1, u2, rfl, g0, g1, g2, i0, i1, i2, i3⟩ := hv
  have H0 : Hid (∀ wi, Below w.heap.size w wi → Bs wi u0 x.name ∧ MailsV wi u1 x.mails ∧ GonesV wi u2 x.gones) := fun wi h => ⟨g0.below h, g1.below keepsMail h, g2.below keepsGone h⟩
  obtain ⟨a0, n0, c0, rfl⟩ := g0.form3
  obtain ⟨a1, c1, rfl, m0, m1⟩ := g1.form
  obtain ⟨a2, c2, rfl, m2, m3⟩ := g2.form
  clear g0 g1 g2
  have HX : Hid (Below w.heap.size w (w.alloc (.cells #[.slice a0 n0 c0, .int .i64 x.valid, .int .i64 x.next, .int .i64 x.seq, .slice a1 x.mails.length c1, .slice a2 x.gones.length c2, .int .i64 x.lost] 49))) := (Below.refl _ _).alloc (Nat.le_refl _) _
  have HK : Hid ((w.alloc (.cells #[.slice a0 n0 c0, .int .i64 x.valid, .int .i64 x.next, .int .i64 x.seq, .slice a1 x.mails.length c1, .slice a2 x.gones.length c2, .int .i64 x.lost] 49)).heap[w.heap.size]? = some (.cells #[.slice a0 n0 c0, .int .i64 x.valid, .int .i64 x.next, .int .i64 x.seq, .slice a1 x.mails.length c1, .slice a2 x.gones.length c2, .int .i64 x.lost] 49)) := box_new w _
  have k0 := txB_len x.name
  have k1 := numB_len x.valid
  have k2 := numB_len x.next
  have k3 := numB_len x.seq
  have k4 := numB_len x.lost
  have k5 := numB_len x.mails.length
  have k6 := numB_len x.gones.length
  have hwl : w.heap.size < (w.alloc (.cells #[.slice a0 n0 c0, .int .i64 x.valid, .int .i64 x.next, .int .i64 x.seq, .slice a1 x.mails.length c1, .slice a2 x.gones.length c2, .int .i64 x.lost] 49)).heap.size := by simp
  go_enter Try.func29, Try.ntmps29
  have HS : Hid (∀ w', Below (w.alloc (.cells #[.slice a0 n0 c0, .int .i64 x.valid, .int .i64 x.next, .int .i64 x.seq, .slice a1 x.mails.length c1, .slice a2 x.gones.length c2, .int .i64 x.lost] 49)).heap.size (w.alloc (.cells #[.slice a0 n0 c0, .int .i64 x.valid, .int .i64 x.next, .int .i64 x.seq, .slice a1 x.mails.length c1, .slice a2 x.gones.length c2, .int .i64 x.lost] 49)) w' → w'.cell? ⟨w.heap.size, 0, none⟩ = some (.slice a0 n0 c0) ∧ w'.cell? ⟨w.heap.size, 1, none⟩ = some (.int .i64 x.valid) ∧ w'.cell? ⟨w.heap.size, 2, none⟩ = some (.int .i64 x.next) ∧ w'.cell? ⟨w.heap.size, 3, none⟩ = some (.int .i64 x.seq) ∧ w'.cell? ⟨w.heap.size, 6, none⟩ = some (.int .i64 x.lost)) := by
    intro w' h
    obtain ⟨s0, s1, s2, s3, s4, s5, s6⟩ := bx7 (box_below h HK.out)
    exact ⟨s0, s1, s2, s3, s6⟩
  have C0 : Below (w.alloc (.cells #[.slice a0 n0 c0, .int .i64 x.valid, .int .i64 x.next, .int .i64 x.seq, .slice a1 x.mails.length c1, .slice a2 x.gones.length c2, .int .i64 x.lost] 49)).heap.size (w.alloc (.cells #[.slice a0 n0 c0, .int .i64 x.valid, .int .i64 x.next, .int .i64 x.seq, .slice a1 x.mails.length c1, .slice a2 x.gones.length c2, .int .i64 x.lost] 49)) (w.alloc (.cells #[.slice a0 n0 c0, .int .i64 x.valid, .int .i64 x.next, .int .i64 x.seq, .slice a1 x.mails.length c1, .slice a2 x.gones.length c2, .int .i64 x.lost] 49)).drew := (Below.refl _ _).drew
  go_wp2
  go_region_held3 (fun w' => w'.cell? ⟨w.heap.size, 0, none⟩ = some (.slice a0 n0 c0) ∧ w'.cell? ⟨w.heap.size, 1, none⟩ = some (.int .i64 x.valid) ∧ w'.cell? ⟨w.heap.size, 2, none⟩ = some (.int .i64 x.next) ∧ w'.cell? ⟨w.heap.size, 3, none⟩ = some (.int .i64 x.seq) ∧ w'.cell? ⟨w.heap.size, 6, none⟩ = some (.int .i64 x.lost))
    (first | exact HS.out _ C5 | exact HS.out _ C4 | exact HS.out _ C3 | exact HS.out _ C2 | exact HS.out _ C1 | go_keep)
    ((first | (have hGuard := R4; go_at_call 28; refine (specPutNum_b _ _ x.lost _ R4.bs (by simp only [List.length_append]; omega) i3).mono ?_; rintro e w5 ⟨r5, rfl, R5, B⟩; have C5 := Below.step C4 B; clear B) | (have hGuard := R3; go_at_call 28; refine (specPutNum_b _ _ x.seq _ R3.bs (by simp only [List.length_append]; omega) i2).mono ?_; rintro e w4 ⟨r4, rfl, R4, B⟩; have C4 := Below.step C3 B; clear B) | (have hGuard := R2; go_at_call 28; refine (specPutNum_b _ _ x.next _ R2.bs (by simp only [List.length_append]; omega) i1).mono ?_; rintro e w3 ⟨r3, rfl, R3, B⟩; have C3 := Below.step C2 B; clear B) | (have hGuard := R1; go_at_call 28; refine (specPutNum_b _ _ x.valid _ R1.bs (by simp only [List.length_append]; omega) i0).mono ?_; rintro e w2 ⟨r2, rfl, R2, B⟩; have C2 := Below.step C1 B; clear B) | (go_at_call 49; refine (specPutText_b _ _ l x.name _ (HB.out _ (Below.step HX.out C0)) (H0.out _ (Below.step HX.out C0)).1 (by omega) hz0).mono ?_; rintro e w1 ⟨r1, rfl, R1, B⟩; have C1 := Below.step C0 B; clear B)))
  have HK5 : Hid (w5.heap[w.heap.size]? = some (.cells #[.slice a0 n0 c0, .int .i64 x.valid, .int .i64 x.next, .int .i64 x.seq, .slice a1 x.mails.length c1, .slice a2 x.gones.length c2, .int .i64 x.lost] 49)) := box_below C5 HK.out
  have HB5 : Hid (Below w.heap.size w w5) := Below.step HX.out C5
  have HR5 : Hid (Row w5 w.heap.size w5.heap.size r5 (l ++ txB x.name ++ numB x.valid ++ numB x.next ++ numB x.seq ++ numB x.lost)) := R5.wide (by have := C4.size; simp at this; omega) (Nat.le_refl _)
  clear HS C0 C1 C2 C3 C4 C5 R1 R2 R3 R4 R5
  obtain ⟨f0, f1, f2, f3, f4, f5, f6⟩ := bx7 HK5.out
  have hlA := lt_of_heap HK5.out
  go_wp2_with fail
  refine (specPutNum_b _ _ x.mails.length _ HR5.out.bs (by simp only [List.length_append]; omega) ⟨by omega, by omega⟩).mono ?_
  rintro e w6 ⟨r6, rfl, R6, B⟩
  clear f0 f1 f2 f3 f4 f5 f6 hlA
  have HK6 : Hid (w6.heap[w.heap.size]? = some (.cells #[.slice a0 n0 c0, .int .i64 x.valid, .int .i64 x.next, .int .i64 x.seq, .slice a1 x.mails.length c1, .slice a2 x.gones.length c2, .int .i64 x.lost] 49)) := box_below B HK5.out
  have HB6 : Hid (Below w.heap.size w w6) := Below.step HB5.out B
  have HR6 : Hid (Row w6 w.heap.size w6.heap.size r6 (l ++ txB x.name ++ numB x.valid ++ numB x.next ++ numB x.seq ++ numB x.lost ++ numB x.mails.length ++ (x.mails.take 0).flatMap mailBs)) := by
    simp only [List.take_zero, List.flatMap_nil, List.append_nil]
    exact R6.wide HB5.out.size (Nat.le_refl _)
  clear R6 B HK5 HB5 HR5
  generalize hL : l ++ txB x.name ++ numB x.valid ++ numB x.next ++ numB x.seq ++ numB x.lost ++ numB x.mails.length = L at HR6
  have hLl : L.length ≤ 100100 := by rw [← hL]; simp only [List.length_append]; omega
  have HL : Hid (l ++ txB x.name ++ numB x.valid ++ numB x.next ++ numB x.seq ++ numB x.lost ++ numB x.mails.length = L) := hL
  clear hL
  obtain ⟨f0, f1, f2, f3, f4, f5, f6⟩ := bx7 HK6.out
  go_wp2
  clear f0 f1 f2 f3 f4 f5 f6
  go_loopw [0, 5] (fun bb i wr => ∃ k : Nat, k ≤ x.mails.length ∧ i = .int .i64 k ∧ Hid (Row wr w.heap.size wr.heap.size bb (L ++ (x.mails.take k).flatMap mailBs)) ∧ Hid (wr.heap[w.heap.size]? = some (.cells #[.slice a0 n0 c0, .int .i64 x.valid, .int .i64 x.next, .int .i64 x.seq, .slice a1 x.mails.length c1, .slice a2 x.gones.length c2, .int .i64 x.lost] 49)) ∧ Hid (Below w.heap.size w wr)) (fun _ i _ => x.mails.length - (intOf i).toNat)
  case atStart => exact ⟨0, Nat.zero_le _, rfl, HR6, HK6, HB6⟩
  case round =>
    clear HK6 HB6 HR6
    obtain ⟨k, hk, rfl, hR, hK, hB⟩ := hrel
    have hml := mails_len (x.mails.take k)
    have htk : (x.mails.take k).length ≤ 12 := by simp; omega
    by_cases hlt : k < x.mails.length
    · obtain ⟨m, hm⟩ : ∃ m, x.mails[k]? = some m := ⟨x.mails[k], List.getElem?_eq_getElem hlt⟩
      obtain ⟨b, off, cap', u, hv', hlb, d0, d1, d2, d3, hu, j0, j1, j2⟩ := MailsV.cell (H0.out wr hB.out).2.1 k m hm
      simp only [Value.slice.injEq, true_and] at hv'
      obtain ⟨rfl, rfl⟩ := hv'
      obtain ⟨ua, un, uc, rfl⟩ := hu.form3
      have htx : m.text.length ≤ 2000000 := by have := szM_mem (List.mem_of_getElem? hm); omega
      have HST : Hid ((x.mails.take (k + 1)).flatMap mailBs = (x.mails.take k).flatMap mailBs ++ mailBs m) := flat_step mailBs hm
      have g0 := numB_len m.uid
      have g1 := numB_len m.flags
      have g2 := numB_len m.seq
      obtain ⟨uid, flags, seq, text⟩ := m
      simp only at d0 d1 d2 d3 hu j0 j1 j2 htx g0 g1 g2
      have HA : Hid (Below wr.heap.size wr (wr.alloc (.cells #[.int .i64 uid, .int .i64 flags, .int .i64 seq, .slice ua un uc] 69))) := (Below.refl _ _).alloc (Nat.le_refl _) _
      have HM : Hid ((wr.alloc (.cells #[.int .i64 uid, .int .i64 flags, .int .i64 seq, .slice ua un uc] 69)).heap[wr.heap.size]? = some (.cells #[.int .i64 uid, .int .i64 flags, .int .i64 seq, .slice ua un uc] 69)) := box_new wr _
      have HU : Hid (∀ wi, Below (wr.alloc (.cells #[.int .i64 uid, .int .i64 flags, .int .i64 seq, .slice ua un uc] 69)).heap.size (wr.alloc (.cells #[.int .i64 uid, .int .i64 flags, .int .i64 seq, .slice ua un uc] 69)) wi → Bs wi (.slice ua un uc) text) := fun wi h => hu.below (Below.step HA.out h)
      obtain ⟨f0, f1, f2, f3, f4, f5, f6⟩ := bx7 hK.out
      have hlA := lt_of_heap hK.out
      have hwl2 : wr.heap.size < (wr.alloc (.cells #[.int .i64 uid, .int .i64 flags, .int .i64 seq, .slice ua un uc] 69)).heap.size := by simp
      clear hu hm
      have HS : Hid (∀ w', Below (wr.alloc (.cells #[.int .i64 uid, .int .i64 flags, .int .i64 seq, .slice ua un uc] 69)).heap.size (wr.alloc (.cells #[.int .i64 uid, .int .i64 flags, .int .i64 seq, .slice ua un uc] 69)) w' → w'.cell? ⟨wr.heap.size, 0, none⟩ = some (.int .i64 uid) ∧ w'.cell? ⟨wr.heap.size, 1, none⟩ = some (.int .i64 flags) ∧ w'.cell? ⟨wr.heap.size, 2, none⟩ = some (.int .i64 seq) ∧ w'.cell? ⟨wr.heap.size, 3, none⟩ = some (.slice ua un uc)) := by
        intro w' h
        exact bx4 (box_below h HM.out)
      have C10 : Below (wr.alloc (.cells #[.int .i64 uid, .int .i64 flags, .int .i64 seq, .slice ua un uc] 69)).heap.size (wr.alloc (.cells #[.int .i64 uid, .int .i64 flags, .int .i64 seq, .slice ua un uc] 69)) (wr.alloc (.cells #[.int .i64 uid, .int .i64 flags, .int .i64 seq, .slice ua un uc] 69)).drew := (Below.refl _ _).drew
      go_wp2
      go_region_held3 (fun w' => w'.cell? ⟨wr.heap.size, 0, none⟩ = some (.int .i64 uid) ∧ w'.cell? ⟨wr.heap.size, 1, none⟩ = some (.int .i64 flags) ∧ w'.cell? ⟨wr.heap.size, 2, none⟩ = some (.int .i64 seq) ∧ w'.cell? ⟨wr.heap.size, 3, none⟩ = some (.slice ua un uc))
        (first | exact HS.out _ C14 | exact HS.out _ C13 | exact HS.out _ C12 | exact HS.out _ C11 | go_keep)
        ((first | (have hGuard := R13; go_at_call 49; refine (specPutText_b _ _ _ text _ R13.bs (HU.out _ C13) (by simp only [List.length_append]; omega) htx).mono ?_; rintro e w14 ⟨r14, rfl, R14, B⟩; have C14 := Below.step C13 B; clear B) | (have hGuard := R12; go_at_call 28; refine (specPutNum_b _ _ seq _ R12.bs (by simp only [List.length_append]; omega) j2).mono ?_; rintro e w13 ⟨r13, rfl, R13, B⟩; have C13 := Below.step C12 B; clear B) | (have hGuard := R11; go_at_call 28; refine (specPutNum_b _ _ flags _ R11.bs (by simp only [List.length_append]; omega) j1).mono ?_; rintro e w12 ⟨r12, rfl, R12, B⟩; have C12 := Below.step C11 B; clear B) | (go_at_call 28; refine (specPutNum_b _ _ uid _ ((hR.out.bs.below HA.out).below C10) (by simp only [List.length_append]; omega) j0).mono ?_; rintro e w11 ⟨r11, rfl, R11, B⟩; have C11 := Below.step C10 B; clear B)))
      have HK2 : Hid (w14.heap[w.heap.size]? = some (.cells #[.slice a0 n0 c0, .int .i64 x.valid, .int .i64 x.next, .int .i64 x.seq, .slice (some ⟨b, off, none⟩) x.mails.length c1, .slice a2 x.gones.length c2, .int .i64 x.lost] 49)) := box_below C14 (box_alloc hK.out _)
      have HB2 : Hid (Below w.heap.size w w14) := Below.step hB.out (Below.step HA.out C14)
      have HR2 : Hid (Row w14 w.heap.size w14.heap.size r14 (L ++ (x.mails.take (k + 1)).flatMap mailBs)) := by
        have e : L ++ (x.mails.take (k + 1)).flatMap mailBs = L ++ (x.mails.take k).flatMap mailBs ++ numB uid ++ numB flags ++ numB seq ++ txB text := by rw [HST.out]; simp [mailBs]
        rw [e]
        exact R14.wide (by have h1 := C13.size; have h2 := hB.out.size; omega) (Nat.le_refl _)
      clear HS C10 C11 C12 C13 C14 R11 R12 R13 R14 HA HM HU hR hK hB d0 d1 d2 d3 f0 f1 f2 f3 f4 f5 f6 HST
      go_wp2
      go_roundw
      case rel => exact ⟨k + 1, by omega, by go_num, HR2, HK2, HB2⟩
      case measure => simp [intOf]; omega
    · obtain rfl : k = x.mails.length := by omega
      obtain ⟨f0, f1, f2, f3, f4, f5, f6⟩ := bx7 hK.out
      have hlA := lt_of_heap hK.out
      have HE : Hid ((x.mails.take x.mails.length).flatMap mailBs = x.mails.flatMap mailBs) := by rw [Hid, List.take_length]
      go_wp2_with fail
      refine (specPutNum_b _ _ x.gones.length _ hR.out.bs (by simp only [List.length_append]; omega) ⟨by omega, by omega⟩).mono ?_
      rintro e w7 ⟨r7, rfl, R7, B⟩
      clear f0 f1 f2 f3 f4 f5 f6 hlA
      have HK7 : Hid (w7.heap[w.heap.size]? = some (.cells #[.slice a0 n0 c0, .int .i64 x.valid, .int .i64 x.next, .int .i64 x.seq, .slice a1 x.mails.length c1, .slice a2 x.gones.length c2, .int .i64 x.lost] 49)) := box_below B hK.out
      have HB7 : Hid (Below w.heap.size w w7) := Below.step hB.out B
      have HR7 : Hid (Row w7 w.heap.size w7.heap.size r7 (L ++ x.mails.flatMap mailBs ++ numB x.gones.length ++ (x.gones.take 0).flatMap goneBs)) := by
        rw [HE.out] at R7
        simp only [List.take_zero, List.flatMap_nil, List.append_nil]
        exact R7.wide hB.out.size (Nat.le_refl _)
      clear R7 B hR hK hB hlt hk
      have hml2 := mails_len x.mails
      generalize hN : L ++ x.mails.flatMap mailBs ++ numB x.gones.length = N at HR7
      have hNl : N.length ≤ 110000 := by rw [← hN]; simp only [List.length_append]; omega
      have HN : Hid (L ++ x.mails.flatMap mailBs ++ numB x.gones.length = N) := hN
      clear hN hml hml2 htk HE
      obtain ⟨f0, f1, f2, f3, f4, f5, f6⟩ := bx7 HK7.out
      go_wp2
      clear f0 f1 f2 f3 f4 f5 f6
      go_loopw [0, 7] (fun bb i wr => ∃ k : Nat, k ≤ x.gones.length ∧ i = .int .i64 k ∧ Hid (Row wr w.heap.size wr.heap.size bb (N ++ (x.gones.take k).flatMap goneBs)) ∧ Hid (wr.heap[w.heap.size]? = some (.cells #[.slice a0 n0 c0, .int .i64 x.valid, .int .i64 x.next, .int .i64 x.seq, .slice a1 x.mails.length c1, .slice a2 x.gones.length c2, .int .i64 x.lost] 49)) ∧ Hid (Below w.heap.size w wr)) (fun _ i _ => x.gones.length - (intOf i).toNat)
      case atStart => exact ⟨0, Nat.zero_le _, rfl, HR7, HK7, HB7⟩
      case round =>
        clear HK7 HB7 HR7
        obtain ⟨k, hk, rfl, hR, hK, hB⟩ := hrel
        have hml := gones_len (x.gones.take k)
        have htk : (x.gones.take k).length ≤ 40 := by simp; omega
        by_cases hlt : k < x.gones.length
        · obtain ⟨m, hm⟩ : ∃ m, x.gones[k]? = some m := ⟨x.gones[k], List.getElem?_eq_getElem hlt⟩
          obtain ⟨b, off, cap', hv', hlb, d0, d1, j0, j1⟩ := GonesV.cell (H0.out wr hB.out).2.2 k m hm
          simp only [Value.slice.injEq, true_and] at hv'
          obtain ⟨rfl, rfl⟩ := hv'
          have HST : Hid ((x.gones.take (k + 1)).flatMap goneBs = (x.gones.take k).flatMap goneBs ++ goneBs m) := flat_step goneBs hm
          have g0 := numB_len m.uid
          have g2 := numB_len m.seq
          obtain ⟨uid, seq⟩ := m
          simp only at d0 d1 j0 j1 g0 g2
          have HD : Hid (wr.cell? ⟨b, off + k * 2, none⟩ = some (.int .i64 uid) ∧ wr.cell? ⟨b, off + k * 2 + 1, none⟩ = some (.int .i64 seq)) := ⟨d0, d1⟩
          obtain ⟨f0, f1, f2, f3, f4, f5, f6⟩ := bx7 hK.out
          have hlA := lt_of_heap hK.out
          clear hm
          have HS : Hid (∀ w', Below (wr).heap.size (wr) w' → w'.cell? ⟨w.heap.size, 5, none⟩ = some (.slice (some ⟨b, off, none⟩) x.gones.length c2) ∧ w'.cell? ⟨b, off + k * 2, none⟩ = some (.int .i64 uid) ∧ w'.cell? ⟨b, off + k * 2 + 1, none⟩ = some (.int .i64 seq)) := by
            intro w' h
            exact ⟨(bx7 (box_below h hK.out)).2.2.2.2.2.1, (h.cell (p := ⟨b, off + k * 2, none⟩) hlb).trans HD.out.1, (h.cell (p := ⟨b, off + k * 2 + 1, none⟩) hlb).trans HD.out.2⟩
          have C20 : Below (wr).heap.size (wr) (wr).drew := (Below.refl _ _).drew
          go_wp2
          go_region_held3 (fun w' => w'.cell? ⟨w.heap.size, 5, none⟩ = some (.slice (some ⟨b, off, none⟩) x.gones.length c2) ∧ w'.cell? ⟨b, off + k * 2, none⟩ = some (.int .i64 uid) ∧ w'.cell? ⟨b, off + k * 2 + 1, none⟩ = some (.int .i64 seq))
            (first | exact HS.out _ C22 | exact HS.out _ C21 | go_keep)
            ((first | (have hGuard := R21; go_at_call 28; refine (specPutNum_b _ _ seq _ R21.bs (by simp only [List.length_append]; omega) j1).mono ?_; rintro e w22 ⟨r22, rfl, R22, B⟩; have C22 := Below.step C21 B; clear B) | (go_at_call 28; refine (specPutNum_b _ _ uid _ (hR.out.bs.below C20) (by simp only [List.length_append]; omega) j0).mono ?_; rintro e w21 ⟨r21, rfl, R21, B⟩; have C21 := Below.step C20 B; clear B)))
          have HK2 : Hid (w22.heap[w.heap.size]? = some (.cells #[.slice a0 n0 c0, .int .i64 x.valid, .int .i64 x.next, .int .i64 x.seq, .slice a1 x.mails.length c1, .slice (some ⟨b, off, none⟩) x.gones.length c2, .int .i64 x.lost] 49)) := box_below C22 hK.out
          have HB2 : Hid (Below w.heap.size w w22) := Below.step hB.out C22
          have HR2 : Hid (Row w22 w.heap.size w22.heap.size r22 (N ++ (x.gones.take (k + 1)).flatMap goneBs)) := by
            have e : N ++ (x.gones.take (k + 1)).flatMap goneBs = N ++ (x.gones.take k).flatMap goneBs ++ numB uid ++ numB seq := by rw [HST.out]; simp [goneBs]
            rw [e]
            exact R22.wide (by have := C21.size; have := hB.out.size; omega) (Nat.le_refl _)
          clear HS C20 C21 C22 R21 R22 hR hK hB d0 d1 f0 f1 f2 f3 f4 f5 f6 HST HD
          go_wp2
          go_roundw
          case rel => exact ⟨k + 1, by omega, by go_num, HR2, HK2, HB2⟩
          case measure => simp [intOf]; omega
        · obtain rfl : k = x.gones.length := by omega
          obtain ⟨f0, f1, f2, f3, f4, f5, f6⟩ := bx7 hK.out
          have HF : Hid (N ++ (x.gones.take x.gones.length).flatMap goneBs = l ++ boxBs x) := by
            rw [Hid, List.take_length, ← HN.out, ← HL.out]
            simp [boxBs]
          go_wp2
          go_ret
          have hr := hR.out
          rw [HF.out] at hr
          exact ⟨_, rfl, hr, hB.out⟩

end Go.Proofs.Ytjdcjhboipileab

/- Plain facts on boxes. -/
namespace Go.Proofs.Ytjdcjhboipileab
set_option linter.unusedVariables false

theorem mailNo {q uid next flags seq bs : Int} {T : Bool} (hq : 0 ≤ q) (h : uid < 1 ∨ next ≤ uid ∨ uid ≤ q ∨ flags < 0 ∨ 31 < flags ∨ seq < 1 ∨ bs < seq ∨ T = false) : (inB uid (q + 1) (next - 1) && (inB flags 0 31 && (inB seq 1 bs && T))) = false := by
  rw [Bool.eq_false_iff]
  intro e
  simp only [inB, Bool.and_eq_true, decide_eq_true_eq] at e
  obtain ⟨⟨e1, e2⟩, ⟨e3, e4⟩, ⟨e5, e6⟩, e7⟩ := e
  rcases h with h | h | h | h | h | h | h | h
  all_goals first | omega | (rw [h] at e7; cases e7)
theorem mailYes {q uid next flags seq bs : Int} {T : Bool} (h0 : q < uid) (h1 : uid < next) (h2 : 0 ≤ flags) (h3 : flags ≤ 31) (h4 : 1 ≤ seq) (h5 : seq ≤ bs) (h6 : 1 ≤ uid) (h7 : T = true) : (inB uid (q + 1) (next - 1) && (inB flags 0 31 && (inB seq 1 bs && T))) = true := by
  simp only [inB, Bool.and_eq_true, decide_eq_true_eq]
  exact ⟨⟨by omega, by omega⟩, ⟨h2, h3⟩, ⟨h4, h5⟩, h7⟩
theorem goneNo {uid next seq ms bs : Int} {M G : Bool} (h : uid < 1 ∨ next ≤ uid ∨ M = true ∨ bs < seq ∨ seq < ms ∨ G = true) : (inB uid 1 (next - 1) && (inB seq ms bs && (!M && !G))) = false := by
  rw [Bool.eq_false_iff]
  intro e
  simp only [inB, Bool.and_eq_true, decide_eq_true_eq, Bool.not_eq_true'] at e
  obtain ⟨⟨e1, e2⟩, ⟨e3, e4⟩, e5, e6⟩ := e
  rcases h with h | h | h | h | h | h
  all_goals first | omega | (rw [h] at e5; cases e5) | (rw [h] at e6; cases e6)
theorem goneYes {uid next seq ms bs : Int} {M G : Bool} (h0 : 1 ≤ uid) (h1 : uid < next) (h2 : ms ≤ seq) (h3 : seq ≤ bs) (h4 : M = false) (h5 : G = false) : (inB uid 1 (next - 1) && (inB seq ms bs && (!M && !G))) = true := by
  simp only [inB, Bool.and_eq_true, decide_eq_true_eq, Bool.not_eq_true']
  exact ⟨⟨h0, by omega⟩, ⟨h2, h3⟩, h4, h5⟩
theorem boxB_noM {x : BoxD} {mv : Int} (h : (List.range x.mails.length).all (mailAt x) = false) : boxB x mv = false := by simp [boxB, mailsB, h]
def earlyB (x : BoxD) (k : Nat) : Bool := match x.gones[k]? with
  | some m => decide (m.uid < 1) || (decide (x.next ≤ m.uid) || ((x.mails.any fun o => decide (o.uid = m.uid)) || (decide (m.seq < 1) || decide (x.seq < m.seq))))
  | none => false
theorem first_bad {p : Nat → Bool} {n : Nat} (h : (List.range n).all p = false) : ∃ k, k < n ∧ (∀ j, j < k → p j = true) ∧ p k = false := by
  apply Classical.byContradiction
  intro hno
  have hall : ∀ k, k < n → p k = true := fun k => Nat.strongRecOn k (fun k ih hk => by
    cases hp : p k with
    | true => rfl
    | false => exact absurd ⟨k, hk, fun j hj => ih j hj (by omega), hp⟩ hno)
  have : (List.range n).all p = true := List.all_eq_true.2 (fun k hk => hall k (List.mem_range.1 hk))
  rw [this] at h; cases h
theorem only_bad {p : Nat → Bool} {k j : Nat} (h1 : ∀ i, i < k → p i = true) (h2 : p k = false) (h3 : ∀ i, i < j → p i = true) (h4 : p j = false) : j = k := by
  rcases Nat.lt_trichotomy j k with h | h | h
  · rw [h1 j h] at h4; cases h4
  · exact h
  · rw [h3 k h] at h2; cases h2
theorem boxB_noG {x : BoxD} {mv : Int} (h : (List.range x.gones.length).all (goneAt x) = false) : boxB x mv = false := by simp [boxB, gonesB, h]

def clsB (x : BoxD) (k : Nat) : Nat := match x.gones[k]? with
  | some m => if m.uid < 1 then 1 else if x.next ≤ m.uid then 2 else if (x.mails.any fun o => decide (o.uid = m.uid)) = true then 3 else if m.seq < 1 then 4 else if x.seq < m.seq then 5 else if (0 : Int) < (k : Int) then (if m.seq < minS x k then 8 else if m.seq < x.lost then 9 else 10) else (if m.seq < x.lost then 6 else 7)
  | none => 1
theorem clsB_range (x : BoxD) (k : Nat) : 1 ≤ clsB x k ∧ clsB x k ≤ 10 := by
  unfold clsB
  repeat' split
  all_goals omega
theorem early_cls {x : BoxD} {k : Nat} (h : earlyB x k = true) : clsB x k ≤ 5 := by
  unfold earlyB at h
  unfold clsB
  split
  · rename_i m hm
    rw [hm] at h
    simp only [Bool.or_eq_true, decide_eq_true_eq] at h
    split
    · omega
    split
    · omega
    split
    · omega
    split
    · omega
    split
    · omega
    rcases h with h | h | h | h | h <;> contradiction
  · omega


end Go.Proofs.Ytjdcjhboipileab

/- What slices.IndexFunc and slices.ContainsFunc of mails and of what went do. -/
namespace Go.Proofs.Ytjdcjhboipileab
open Go.RowKit Go.Shelf
set_option maxRecDepth 100000
set_option linter.unusedVariables false

theorem firstI_hit' {α : Type} {p : α → Bool} {l : List α} {k : Nat} {x : α} (hk : k < l.length) (hx : l[k]? = some x) (h : p x = true) (hA : ∀ j x, j < k → l[j]? = some x → p x = false) : firstI p l = k := by
  have : l.findIdx? p = some k := by
    rw [List.findIdx?_eq_some_iff_getElem]
    refine ⟨hk, by rw [List.getElem?_eq_getElem hk] at hx; cases hx; exact h, fun j hj => ?_⟩
    rw [hA j _ hj (List.getElem?_eq_getElem (by omega))]; simp
  simp [firstI, this]
theorem firstI_none' {α : Type} {p : α → Bool} {l : List α} (hA : ∀ j x, j < l.length → l[j]? = some x → p x = false) : firstI p l = -1 := by
  have : l.findIdx? p = none := by
    rw [List.findIdx?_eq_none_iff]
    intro x hx
    obtain ⟨j, hj, rfl⟩ := List.getElem_of_mem hx
    exact hA j _ hj (List.getElem?_eq_getElem hj)
  simp [firstI, this]
def GoneV (_ : World) (v : Value) (x : GoneD) : Prop := v = .agg #[.int .i64 x.uid, .int .i64 x.seq]

set_option maxRecDepth 100000 in
set_option maxHeartbeats 1000000 in
theorem indexFuncMail (g : Nat) (lb : Array Value) (p : MailD → Bool) (v : Value) (l : List MailD) (w : World) (hv : MailsV w v l) (eg : ∀ args w, (callFunc g args).run Try.prog w = .ok (.enter g args) w)
    (hp : ∀ wi x u, Below w.heap.size w wi → MailV wi u x → Calls Try.prog g (#[u] ++ lb) wi fun e w' => e = .returned (.bool (p x)) ∧ Below wi.heap.size wi w') :
    Calls Try.prog 75 #[v, .func (.func g) #[] lb] w fun e w' => e = .returned (.int .i64 (firstI p l)) ∧ Below w.heap.size w w' := by
  have HV : Hid (∀ wi, Below w.heap.size w wi → MailsV wi v l) := fun wi h => hv.below keepsMail h
  have HP : Hid (∀ wi x u, Below w.heap.size w wi → MailV wi u x → Calls Try.prog g (#[u] ++ lb) wi fun e w' => e = .returned (.bool (p x)) ∧ Below wi.heap.size wi w') := hp
  obtain ⟨a, cap, rfl, hlc, hcm⟩ := hv.form
  clear hv hp
  go_enter Try.func75, Try.ntmps75
  go_wp2
  go_loopw [5, 8] (fun _ i wr => ∃ k : Nat, k ≤ l.length ∧ i = .int .i64 k ∧ Hid (∀ j x, j < k → l[j]? = some x → p x = false) ∧ Hid (Below w.heap.size w wr)) (fun _ i _ => l.length - (intOf i).toNat)
  case atStart => exact ⟨0, Nat.zero_le _, rfl, (fun j x hj => absurd hj (Nat.not_lt_zero _)), Below.refl _ _⟩
  case round =>
    obtain ⟨k, hk, rfl, hA, hB⟩ := hrel
    by_cases hlt : k < l.length
    · obtain ⟨x, hx⟩ : ∃ x, l[k]? = some x := ⟨l[k], List.getElem?_eq_getElem hlt⟩
      obtain ⟨b, off, cap', u, hv', hlb, d0, d1, d2, d3, hu, i0, i1, i2⟩ := MailsV.cell (HV.out wr hB.out) k x hx
      simp only [Value.slice.injEq, true_and] at hv'
      obtain ⟨rfl, rfl⟩ := hv'
      obtain ⟨ua, un, uc, rfl⟩ := hu.form3
      have hcall := HP.out wr x (.agg #[.int .i64 x.uid, .int .i64 x.flags, .int .i64 x.seq, .slice ua un uc]) hB.out ⟨_, rfl, hu, i0, i1, i2⟩
      have HX : Hid (l[k]? = some x) := hx
      clear hx
      cases hq : p x with
      | true =>
        rw [hq] at hcall
        have HQ : Hid (p x = true) := hq
        clear hq
        go_wp2_with (go_at_fn g; refine hcall.mono ?_; rintro e w1 ⟨rfl, B⟩)
        go_ret
        exact ⟨ret_i (firstI_hit' hlt HX.out HQ.out hA.out).symm, Below.step hB.out B⟩
      | false =>
        rw [hq] at hcall
        have HQ : Hid (p x = false) := hq
        clear hq
        go_wp2_with (go_at_fn g; refine hcall.mono ?_; rintro e w1 ⟨rfl, B⟩)
        have HB2 : Hid (Below w.heap.size w w1) := Below.step hB.out B
        clear B hB
        go_roundw
        case rel =>
          refine ⟨k + 1, by omega, by go_num, (show Hid _ from fun j y hj hy => ?_), HB2⟩
          by_cases e : j = k
          · subst e; rw [HX.out] at hy; cases hy; exact HQ.out
          · exact hA.out j y (by omega) hy
        case measure => simp [intOf]; omega
    · obtain rfl : k = l.length := by omega
      go_wp2
      go_ret
      exact ⟨ret_i (firstI_none' hA.out).symm, hB.out⟩

set_option maxRecDepth 100000 in
set_option maxHeartbeats 1000000 in
theorem containsFuncMail (g : Nat) (lb : Array Value) (p : MailD → Bool) (v : Value) (l : List MailD) (w : World) (hv : MailsV w v l) (eg : ∀ args w, (callFunc g args).run Try.prog w = .ok (.enter g args) w)
    (hp : ∀ wi x u, Below w.heap.size w wi → MailV wi u x → Calls Try.prog g (#[u] ++ lb) wi fun e w' => e = .returned (.bool (p x)) ∧ Below wi.heap.size wi w') :
    Calls Try.prog 67 #[v, .func (.func g) #[] lb] w fun e w' => e = .returned (.bool (l.any p)) ∧ Below w.heap.size w w' := by
  have hi := indexFuncMail g lb p v l w hv eg hp
  have HF : Hid (l.any p = decide (0 ≤ firstI p l)) := any_firstI p l
  generalize firstI p l = i at hi HF
  obtain ⟨a, cap, rfl, -⟩ := hv.form
  clear hp hv
  go_enter Try.func67, Try.ntmps67
  go_wp2_with (go_at_call 75; refine hi.mono ?_; rintro e w1 ⟨rfl, B⟩)
  go_ret
  exact ⟨ret_b HF.out, B⟩

set_option maxRecDepth 100000 in
set_option maxHeartbeats 1000000 in
theorem indexFuncGone (g : Nat) (lb : Array Value) (p : GoneD → Bool) (v : Value) (l : List GoneD) (w : World) (hv : GonesV w v l) (eg : ∀ args w, (callFunc g args).run Try.prog w = .ok (.enter g args) w)
    (hp : ∀ wi x u, Below w.heap.size w wi → GoneV wi u x → Calls Try.prog g (#[u] ++ lb) wi fun e w' => e = .returned (.bool (p x)) ∧ Below wi.heap.size wi w') :
    Calls Try.prog 76 #[v, .func (.func g) #[] lb] w fun e w' => e = .returned (.int .i64 (firstI p l)) ∧ Below w.heap.size w w' := by
  have HV : Hid (∀ wi, Below w.heap.size w wi → GonesV wi v l) := fun wi h => hv.below keepsGone h
  have HP : Hid (∀ wi x u, Below w.heap.size w wi → GoneV wi u x → Calls Try.prog g (#[u] ++ lb) wi fun e w' => e = .returned (.bool (p x)) ∧ Below wi.heap.size wi w') := hp
  obtain ⟨a, cap, rfl, hlc, hcm⟩ := hv.form
  clear hv hp
  go_enter Try.func76, Try.ntmps76
  go_wp2
  go_loopw [5, 8] (fun _ i wr => ∃ k : Nat, k ≤ l.length ∧ i = .int .i64 k ∧ Hid (∀ j x, j < k → l[j]? = some x → p x = false) ∧ Hid (Below w.heap.size w wr)) (fun _ i _ => l.length - (intOf i).toNat)
  case atStart => exact ⟨0, Nat.zero_le _, rfl, (fun j x hj => absurd hj (Nat.not_lt_zero _)), Below.refl _ _⟩
  case round =>
    obtain ⟨k, hk, rfl, hA, hB⟩ := hrel
    by_cases hlt : k < l.length
    · obtain ⟨x, hx⟩ : ∃ x, l[k]? = some x := ⟨l[k], List.getElem?_eq_getElem hlt⟩
      obtain ⟨b, off, cap', hv', hlb, d0, d1, i0, i1⟩ := GonesV.cell (HV.out wr hB.out) k x hx
      simp only [Value.slice.injEq, true_and] at hv'
      obtain ⟨rfl, rfl⟩ := hv'
      have hcall := HP.out wr x (.agg #[.int .i64 x.uid, .int .i64 x.seq]) hB.out rfl
      have HX : Hid (l[k]? = some x) := hx
      clear hx
      cases hq : p x with
      | true =>
        rw [hq] at hcall
        have HQ : Hid (p x = true) := hq
        clear hq
        go_wp2_with (go_at_fn g; refine hcall.mono ?_; rintro e w1 ⟨rfl, B⟩)
        go_ret
        exact ⟨ret_i (firstI_hit' hlt HX.out HQ.out hA.out).symm, Below.step hB.out B⟩
      | false =>
        rw [hq] at hcall
        have HQ : Hid (p x = false) := hq
        clear hq
        go_wp2_with (go_at_fn g; refine hcall.mono ?_; rintro e w1 ⟨rfl, B⟩)
        have HB2 : Hid (Below w.heap.size w w1) := Below.step hB.out B
        clear B hB
        go_roundw
        case rel =>
          refine ⟨k + 1, by omega, by go_num, (show Hid _ from fun j y hj hy => ?_), HB2⟩
          by_cases e : j = k
          · subst e; rw [HX.out] at hy; cases hy; exact HQ.out
          · exact hA.out j y (by omega) hy
        case measure => simp [intOf]; omega
    · obtain rfl : k = l.length := by omega
      go_wp2
      go_ret
      exact ⟨ret_i (firstI_none' hA.out).symm, hB.out⟩

set_option maxRecDepth 100000 in
set_option maxHeartbeats 1000000 in
theorem containsFuncGone (g : Nat) (lb : Array Value) (p : GoneD → Bool) (v : Value) (l : List GoneD) (w : World) (hv : GonesV w v l) (eg : ∀ args w, (callFunc g args).run Try.prog w = .ok (.enter g args) w)
    (hp : ∀ wi x u, Below w.heap.size w wi → GoneV wi u x → Calls Try.prog g (#[u] ++ lb) wi fun e w' => e = .returned (.bool (p x)) ∧ Below wi.heap.size wi w') :
    Calls Try.prog 69 #[v, .func (.func g) #[] lb] w fun e w' => e = .returned (.bool (l.any p)) ∧ Below w.heap.size w w' := by
  have hi := indexFuncGone g lb p v l w hv eg hp
  have HF : Hid (l.any p = decide (0 ≤ firstI p l)) := any_firstI p l
  generalize firstI p l = i at hi HF
  obtain ⟨a, cap, rfl, -⟩ := hv.form
  clear hp hv
  go_enter Try.func69, Try.ntmps69
  go_wp2_with (go_at_call 76; refine hi.mono ?_; rintro e w1 ⟨rfl, B⟩)
  go_ret
  exact ⟨ret_b HF.out, B⟩

end Go.Proofs.Ytjdcjhboipileab

/- What l3mail and l3gone of package spec do. -/
namespace Go.Proofs.Ytjdcjhboipileab
open Go.RowKit
set_option maxRecDepth 100000
set_option linter.unusedVariables false
set_option linter.unusedSimpArgs false

set_option maxRecDepth 100000 in
set_option maxHeartbeats 4000000 in
theorem l3mail_any (v : Value) (x : BoxD) (uid : Int) (w : World) (hv : BoxV w v x) :
    Calls Try.prog 47 #[v, .int .i64 uid] w fun e w' => e = .returned (.int .i64 (firstI (fun m => decide (m.uid = uid)) x.mails)) ∧ Below w.heap.size w w' := by
  obtain ⟨u0, u1, u2, rfl, g0, g1, g2, i0, i1, i2, i3⟩ := hv
  have H0 : Hid (∀ wi, Below w.heap.size w wi → Bs wi u0 x.name ∧ MailsV wi u1 x.mails ∧ GonesV wi u2 x.gones) := fun wi h => ⟨g0.below h, g1.below keepsMail h, g2.below keepsGone h⟩
  obtain ⟨a0, n0, c0, rfl⟩ := g0.form3
  obtain ⟨a1, c1, rfl, m0, m1⟩ := g1.form
  obtain ⟨a2, c2, rfl, m2, m3⟩ := g2.form
  clear g0 g1 g2
  have HX : Hid (Below w.heap.size w (w.alloc (.cells #[.slice a0 n0 c0, .int .i64 x.valid, .int .i64 x.next, .int .i64 x.seq, .slice a1 x.mails.length c1, .slice a2 x.gones.length c2, .int .i64 x.lost] 49))) := (Below.refl _ _).alloc (Nat.le_refl _) _
  go_enter Try.func47, Try.ntmps47
  go_wp2
  go_loop [5] (fun i => ∃ k : Nat, k ≤ x.mails.length ∧ i = .int .i64 k ∧ Hid (∀ j m, j < k → x.mails[j]? = some m → decide (m.uid = uid) = false)) (fun i => x.mails.length - (intOf i).toNat)
  case atStart => exact ⟨0, Nat.zero_le _, rfl, fun j m hj => absurd hj (Nat.not_lt_zero _)⟩
  case round =>
    obtain ⟨k, hk, rfl, hA⟩ := hrel
    by_cases hlt : k < x.mails.length
    · obtain ⟨m, hm⟩ : ∃ m, x.mails[k]? = some m := ⟨x.mails[k], List.getElem?_eq_getElem hlt⟩
      obtain ⟨b, off, cap', u, hv', hlb, d0, d1, d2, d3, hu, j0, j1, j2⟩ := MailsV.cell (H0.out _ HX.out).2.1 k m hm
      simp only [Value.slice.injEq, true_and] at hv'
      obtain ⟨rfl, rfl⟩ := hv'
      have HM : Hid (x.mails[k]? = some m) := hm
      clear hm hu d1 d2 d3
      by_cases he : m.uid = uid
      · have he' : (m.uid == uid) = true := by simpa using he
        have HE : Hid (m.uid = uid) := he
        clear he
        go_wp2
        go_ret
        exact ⟨ret_i (firstI_hit' hlt HM.out (by simpa using HE.out) hA.out).symm, HX.out⟩
      · have he' : (m.uid == uid) = false := by simpa using he
        have HE : Hid (m.uid ≠ uid) := he
        clear he
        go_wp2
        go_round
        case rel =>
          refine ⟨k + 1, by omega, by go_num, (show Hid _ from fun j y hj hy => ?_)⟩
          by_cases e : j = k
          · subst e; rw [HM.out] at hy; cases hy; simpa using HE.out
          · exact hA.out j y (by omega) hy
        case measure => simp [intOf]; omega
    · obtain rfl : k = x.mails.length := by omega
      go_wp2
      go_ret
      exact ⟨ret_i (firstI_none' hA.out).symm, HX.out⟩

set_option maxRecDepth 100000 in
set_option maxHeartbeats 4000000 in
theorem l3gone_any (v : Value) (l : List GoneD) (uid : Int) (w : World) (hv : GonesV w v l) :
    Calls Try.prog 48 #[v, .int .i64 uid] w fun e w' => e = .returned (.bool (l.any fun o => decide (o.uid = uid))) ∧ w' = w := by
  have HV : Hid (GonesV w v l) := hv
  obtain ⟨a, cap, rfl, hlc, hcm⟩ := hv.form
  clear hv
  go_enter Try.func48, Try.ntmps48
  go_wp2
  go_loop [5] (fun i => ∃ k : Nat, k ≤ l.length ∧ i = .int .i64 k ∧ Hid (∀ j m, j < k → l[j]? = some m → m.uid ≠ uid)) (fun i => l.length - (intOf i).toNat)
  case atStart => exact ⟨0, Nat.zero_le _, rfl, fun j m hj => absurd hj (Nat.not_lt_zero _)⟩
  case round =>
    obtain ⟨k, hk, rfl, hA⟩ := hrel
    by_cases hlt : k < l.length
    · obtain ⟨m, hm⟩ : ∃ m, l[k]? = some m := ⟨l[k], List.getElem?_eq_getElem hlt⟩
      obtain ⟨b, off, cap', hv', hlb, d0, d1, j0, j1⟩ := GonesV.cell HV.out k m hm
      simp only [Value.slice.injEq, true_and] at hv'
      obtain ⟨rfl, rfl⟩ := hv'
      have HM : Hid (l[k]? = some m) := hm
      clear hm d1
      by_cases he : m.uid = uid
      · have he' : (m.uid == uid) = true := by simpa using he
        have HE : Hid (m.uid = uid) := he
        clear he
        go_wp2
        go_ret
        exact ⟨ret_b (List.any_eq_true.2 ⟨m, List.mem_of_getElem? HM.out, by simpa using HE.out⟩), rfl⟩
      · have he' : (m.uid == uid) = false := by simpa using he
        have HE : Hid (m.uid ≠ uid) := he
        clear he
        go_wp2
        go_round
        case rel =>
          refine ⟨k + 1, by omega, by go_num, (show Hid _ from fun j y hj hy => ?_)⟩
          by_cases e : j = k
          · subst e; rw [HM.out] at hy; cases hy; exact HE.out
          · exact hA.out j y (by omega) hy
        case measure => simp [intOf]; omega
    · obtain rfl : k = l.length := by omega
      go_wp2
      go_ret
      refine ⟨ret_b (List.any_eq_false.2 fun m hm => ?_), rfl⟩
      obtain ⟨j, hj, rfl⟩ := List.getElem_of_mem hm
      simpa using hA.out j _ hj (List.getElem?_eq_getElem hj)

end Go.Proofs.Ytjdcjhboipileab

/- What slices.IndexFunc and slices.ContainsFunc do of bytes, whatever function is handed in. -/
namespace Go.Proofs.Ytjdcjhboipileab
open Go.RowKit Go.Shelf
set_option maxRecDepth 100000

set_option maxHeartbeats 400000 in
theorem indexFuncB (g : Nat) (lb : Array Value) (p : Int → Bool) (v : Value) (l : List Int) (w : World) (hv : Bs w v l) (eg : ∀ args w, (callFunc g args).run Try.prog w = .ok (.enter g args) w)
    (hp : ∀ x, 0 ≤ x → x ≤ 255 → Calls Try.prog g (#[.int .u8 x] ++ lb) w fun e w' => e = .returned (.bool (p x)) ∧ w' = w) :
    Calls Try.prog 77 #[v, .func (.func g) #[] lb] w fun e w' => e = .returned (.int .i64 (firstI p l)) ∧ w' = w := by
  obtain ⟨ho, a, cap, rfl, hlc, hcm, hnil, hcells⟩ := hv
  unfold maxLen at hcm
  go_enter Try.func77, Try.ntmps77
  go_wp2
  go_loop [5, 8] (fun _ i => ∃ k : Nat, k ≤ l.length ∧ i = .int .i64 k ∧ Hid (∀ j, j < k → p (l.getD j 0) = false)) (fun _ i => l.length - (intOf i).toNat)
  case atStart => exact ⟨0, Nat.zero_le _, rfl, fun j hj => absurd hj (Nat.not_lt_zero _)⟩
  case round =>
    obtain ⟨k, hk, rfl, hA⟩ := hrel
    by_cases hlt : k < l.length
    · obtain ⟨b, off, rfl, hlb, hc⟩ := hcells (by omega)
      have hx := hc k hlt
      have hbx := oct_get ho k
      generalize hy : l.getD k 0 = x at hx hbx
      have HX : Hid (l.getD k 0 = x) := hy
      clear hy hc hcells
      have hcall := hp x hbx.1 hbx.2
      clear hp
      cases hq : p x with
      | true =>
        rw [hq] at hcall
        go_wp2_with (go_at_fn g; refine hcall.mono ?_; rintro e w' ⟨rfl, rfl⟩)
        go_ret
        exact ⟨ret_i (firstI_hit hlt (by rw [HX.out]; exact hq) hA.out).symm, rfl⟩
      | false =>
        rw [hq] at hcall
        go_wp2_with (go_at_fn g; refine hcall.mono ?_; rintro e w' ⟨rfl, rfl⟩)
        go_round
        case rel =>
          refine ⟨k + 1, by omega, by go_num, (show Hid _ from fun j hj => ?_)⟩
          by_cases e : j = k
          · subst e; rw [HX.out]; exact hq
          · exact hA.out j (by omega)
        case measure => simp [intOf]; omega
    · obtain rfl : k = l.length := by omega
      go_wp2
      go_ret
      exact ⟨ret_i (firstI_none hA.out).symm, rfl⟩

set_option maxHeartbeats 400000 in
theorem containsFuncB (g : Nat) (lb : Array Value) (p : Int → Bool) (v : Value) (l : List Int) (w : World) (hv : Bs w v l) (eg : ∀ args w, (callFunc g args).run Try.prog w = .ok (.enter g args) w)
    (hp : ∀ x, 0 ≤ x → x ≤ 255 → Calls Try.prog g (#[.int .u8 x] ++ lb) w fun e w' => e = .returned (.bool (p x)) ∧ w' = w) :
    Calls Try.prog 73 #[v, .func (.func g) #[] lb] w fun e w' => e = .returned (.bool (l.any p)) ∧ w' = w := by
  have hi := indexFuncB g lb p v l w hv eg hp
  have HF : Hid (l.any p = decide (0 ≤ firstI p l)) := any_firstI p l
  generalize firstI p l = i at hi HF
  obtain ⟨ho, a, cap, rfl, -⟩ := hv
  clear hp
  go_enter Try.func73, Try.ntmps73
  go_wp2_with (go_at_call 77; refine hi.mono ?_; rintro e w' ⟨rfl, rfl⟩)
  go_ret
  exact ⟨ret_b HF.out, rfl⟩

end Go.Proofs.Ytjdcjhboipileab

/- What within, allWithin, nameOk, nameWanted, textOk of package impl do. -/
namespace Go.Proofs.Ytjdcjhboipileab
open Go.RowKit Go.Shelf
set_option maxRecDepth 100000

theorem textB_len {l : List Int} (h : textB l = true) : l.length ≤ 30 := by unfold textB at h; simp at h; exact h.1

theorem within_any (n lo hi : Int) (w : World) :
    Calls Try.prog 31 #[.int .i64 n, .int .i64 lo, .int .i64 hi] w fun e w' => e = .returned (.bool (inB n lo hi)) ∧ w' = w := by
  by_cases h0 : lo ≤ n
  · by_cases h1 : n ≤ hi
    · go_enter Try.func31, Try.ntmps31
      go_wp2
      go_ret
      exact ⟨ret_b (by simp [inB, h0, h1]), rfl⟩
    · go_enter Try.func31, Try.ntmps31
      go_wp2
      go_ret
      exact ⟨ret_b (by simp [inB, h1]), rfl⟩
  · go_enter Try.func31, Try.ntmps31
    go_wp2
    go_ret
    exact ⟨ret_b (by simp [inB]; omega), rfl⟩

theorem allWithin1_any (x lo hi : Int) (b1 b2 : Nat) (w : World) (c1 : w.cell? ⟨b1, 0, none⟩ = some (.int .u8 lo)) (c2 : w.cell? ⟨b2, 0, none⟩ = some (.int .u8 hi)) :
    Calls Try.prog 74 #[.int .u8 x, .pointer (some ⟨b1, 0, none⟩), .pointer (some ⟨b2, 0, none⟩)] w fun e w' => e = .returned (.bool (decide (x < lo) || decide (hi < x))) ∧ w' = w := by
  by_cases h0 : x < lo
  · go_enter Try.func74, Try.ntmps74
    go_wp2
    go_ret
    exact ⟨ret_b (by simp [h0]), rfl⟩
  · go_enter Try.func74, Try.ntmps74
    go_wp2
    go_ret
    exact ⟨ret_b (by simp; omega), rfl⟩

theorem allIn_any (lo hi : Int) (l : List Int) : (!l.any fun x => decide (x < lo) || decide (hi < x)) = allIn lo hi l := by
  induction l with
  | nil => rfl
  | cons x l ih =>
    simp only [List.any_cons, allIn, List.all_cons, Bool.not_or]
    rw [ih]
    congr 1
    by_cases h0 : x < lo <;> by_cases h1 : hi < x <;> simp [h0, h1] <;> omega

set_option maxHeartbeats 400000 in
theorem allWithin_any (v : Value) (l : List Int) (lo hi : Int) (w : World) (hv : Bs w v l) :
    Calls Try.prog 65 #[v, .int .u8 lo, .int .u8 hi] w fun e w' => e = .returned (.bool (allIn lo hi l)) ∧ Below w.heap.size w w' := by
  have bx := boxes2 w (.cells #[.int .u8 lo] 5) (.cells #[.int .u8 hi] 5)
  have H : Hid (Calls Try.prog 73 #[v, .func (.func 74) #[] #[.pointer (some ⟨w.heap.size, 0, none⟩), .pointer (some ⟨w.heap.size + 1, 0, none⟩)]] ((w.alloc (.cells #[.int .u8 lo] 5)).alloc (.cells #[.int .u8 hi] 5)) fun e w' => e = .returned (.bool (l.any fun x => decide (x < lo) || decide (hi < x))) ∧ w' = (w.alloc (.cells #[.int .u8 lo] 5)).alloc (.cells #[.int .u8 hi] 5)) := by
    refine containsFuncB _ _ _ v l _ (hv.below bx.2.2) (fun args w => by kernel_rfl) fun x _ _ => allWithin1_any x lo hi _ _ _ ?_ ?_
    · rw [cell_of_row _ _ 0 _ _ (0, 0) bx.1]; rfl
    · rw [cell_of_row _ _ 0 _ _ (0, 0) bx.2.1]; rfl
  have HA := allIn_any lo hi l
  have HB : Hid (Below w.heap.size w ((w.alloc (.cells #[.int .u8 lo] 5)).alloc (.cells #[.int .u8 hi] 5))) := bx.2.2
  generalize (l.any fun x => decide (x < lo) || decide (hi < x)) = X at H HA
  have HA' : Hid ((!X) = allIn lo hi l) := HA
  clear HA bx
  obtain ⟨a, n, c, rfl⟩ := hv.form3
  clear hv
  go_enter Try.func65, Try.ntmps65
  go_wp2_with (go_at_call 73; refine H.out.mono ?_; rintro e w' ⟨rfl, rfl⟩)
  go_ret
  exact ⟨ret_b HA'.out.symm, HB.out⟩

set_option maxHeartbeats 400000 in
theorem nameOk_any (v : Value) (l : List Int) (w : World) (hv : Bs w v l) :
    Calls Try.prog 53 #[v] w fun e w' => e = .returned (.bool (nameB l)) ∧ Below w.heap.size w w' := by
  have H : Hid (Bs w v l) := hv
  obtain ⟨ho, a, cap, rfl, hlc, hcm, -⟩ := hv
  unfold maxLen at hcm
  by_cases h0 : 1 ≤ l.length ∧ l.length ≤ 6
  · have e1 : inB (l.length : Int) 1 6 = true := by simp [inB]; omega
    have e2 : Hid (nameB l = allIn 97 122 l) := by simp [Hid, nameB, h0.1, h0.2]
    have hw := within_any (l.length : Int) 1 6
    rw [e1] at hw
    clear e1
    go_enter Try.func53, Try.ntmps53
    go_wp2_with (first | (go_at_call 31; refine (hw _).mono ?_; rintro e w' ⟨rfl, rfl⟩) | (go_at_call 65; refine (allWithin_any _ l 97 122 _ H.out).mono ?_; rintro e w1 ⟨rfl, B⟩))
    go_ret
    exact ⟨ret_b e2.out, B⟩
  · have e1 : inB (l.length : Int) 1 6 = false := by simp [inB]; omega
    have e2 : Hid (nameB l = false) := by
      simp only [Hid, nameB]
      by_cases h1 : 1 ≤ l.length
      · simp [show ¬ l.length ≤ 6 by omega]
      · simp [h1]
    have hw := within_any (l.length : Int) 1 6
    rw [e1] at hw
    clear e1
    go_enter Try.func53, Try.ntmps53
    go_wp2_with (first | (go_at_call 31; refine (hw _).mono ?_; rintro e w' ⟨rfl, rfl⟩))
    go_ret
    exact ⟨ret_b e2.out, Below.refl _ _⟩

set_option maxHeartbeats 400000 in
theorem textOk_any (v : Value) (l : List Int) (w : World) (hv : Bs w v l) :
    Calls Try.prog 66 #[v] w fun e w' => e = .returned (.bool (textB l)) ∧ Below w.heap.size w w' := by
  have H : Hid (Bs w v l) := hv
  obtain ⟨ho, a, cap, rfl, hlc, hcm, -⟩ := hv
  unfold maxLen at hcm
  by_cases h0 : l.length ≤ 30
  · have e2 : Hid (textB l = allIn 32 126 l) := by simp [Hid, textB, h0]
    go_enter Try.func66, Try.ntmps66
    go_wp2_with (first | (go_at_call 65; refine (allWithin_any _ l 32 126 _ H.out).mono ?_; rintro e w1 ⟨rfl, B⟩))
    go_ret
    exact ⟨ret_b e2.out, B⟩
  · have e2 : Hid (textB l = false) := by simp [Hid, textB, h0]
    go_enter Try.func66, Try.ntmps66
    go_wp2
    go_ret
    exact ⟨ret_b e2.out, Below.refl _ _⟩

end Go.Proofs.Ytjdcjhboipileab
