/- The proof's texts, part 17. -/
import Derived.Test.YtjdcjhboipileabPart3
import Derived.Test.YtjdcjhboipileabPart4
import Derived.Test.YtjdcjhboipileabPart15
import Derived.Test.YtjdcjhboipileabPart16
import Derived.Deep.RegionHeld3
import Derived.Test.YtjdcjhboipileabRows
import Derived.Test.YtjdcjhboipileabPart1
import Derived.ProofKit
import Derived.OpenShut
import Derived.ShutString
import Derived.ChangeOld
import Derived.ChangeSame
import Derived.Deep.Light
import Derived.Test.YtjdcjhboipileabPart2
import Derived.Deep.Slices

/- The law FnExactAccountBytes, walked out of the contracts. -/
namespace Go.Proofs.Ytjdcjhboipileab
open Go.RowKit
set_option maxRecDepth 100000

theorem box3l {w : World} {g : Nat} {t : TypeId} {c0 c1 c2 : Value} (h : w.heap[g]? = some (.cells #[c0, c1, c2] t (0, 0))) : w.cell? ⟨g, 0, none⟩ = some c0 ∧ w.cell? ⟨g, 1, none⟩ = some c1 ∧ w.cell? ⟨g, 2, none⟩ = some c2 ∧ g < w.heap.size := by
  obtain ⟨f0, f1, f2⟩ := bx3 h
  exact ⟨f0, f1, f2, lt_of_heap h⟩
theorem markByteS_w (B T : Nat) (v : Value) (l : List Int) (k : Int) (w : World) (hv : Row w B T v l) (hl : l.length ≤ 2000000) (hk0 : 0 ≤ k) (hk1 : k ≤ 1000000000000) :
    Calls Try.prog 11 #[v, .int .i64 k] w fun e w' => e = .returned (.int .i64 (k + l.length)) ∧ Row w' B T v (marks k l.length) ∧ Within B T w w' :=
  (markByteS_r B T v l k w hv hl hk0 hk1).mono fun _ _ ⟨h1, h2, h3⟩ => ⟨h1, h2, hv.within h3⟩

set_option maxRecDepth 100000 in
set_option maxHeartbeats 4000000 in
theorem exactAccountBytes_walk (v : Value) (x : AccD) (w : World) (hv : AccV w v x) :
    Calls Try.prog 3 #[v] w fun e w' => e = .returned (.bool true) ∧ Below w.heap.size w w' := by
  have HV : Hid (∀ wi, Below w.heap.size w wi → AccV wi v x) := fun wi h => hv.below h
  obtain ⟨v0, v1, rfl, g0, g1, -⟩ := hv
  obtain ⟨e0, e2, rfl, -⟩ := g0.form
  obtain ⟨e3, e5, rfl, -⟩ := g1.form
  clear g0 g1
  have hP := outB_len x
  generalize hPe : outB x = P at hP
  generalize hOe : accB x = ok
  have HPE : Hid (outB x = P ∧ accB x = ok) := ⟨hPe, hOe⟩
  clear hPe hOe
  go_enter Try.func3, Try.ntmps3
  have ab : ∀ o, Below w.heap.size w (w.alloc o) := fun o => (Below.refl _ _).alloc (Nat.le_refl _) o
  go_wp2_with fail
  refine (szAccount_any _ x 1048576 _ (HV.out _ (ab _)) (by omega) (by omega)).mono ?_
  rintro e w1 ⟨y, rfl, hx, B⟩
  have kA := box_below B (box_new w (.cells #[.int .i64 x.valid, .slice e0 x.boxes.length e2, .slice e3 x.seen.length e5] 25))
  have X := Below.step (Below.step (Below.refl _ _) (ab _)) B
  have s1 : w.heap.size + 1 ≤ w1.heap.size := by have := B.size; simp at this; omega
  clear B ab
  rcases hx with rfl | ⟨hx0, hx1⟩
  · clear kA
    go_wp2
    go_ret
    exact ⟨rfl, X⟩
  have ha : szXs x.boxes ≤ 1048576 := by omega
  have hb : x.seen.length ≤ 1048576 := by omega
  clear hx1
  obtain ⟨fA0, fA1, fA2, lA⟩ := box3l kA
  go_wp2_with fail
  refine (toAccount_o _ x _ (HV.out _ X) (by omega) (by omega)).mono ?_
  rintro e w2 ⟨u1, rfl, R1, B⟩
  clear fA0 fA1 fA2 lA
  replace kA := box_below B kA
  replace X := Below.step X B
  have s2 : w1.heap.size ≤ w2.heap.size := B.size
  clear B
  obtain ⟨fA0, fA1, fA2, lA⟩ := box3l kA
  go_wp2_with fail
  refine (specAccountBytes_r _ x _ R1.v (by omega)).mono ?_
  rintro e w3 ⟨u2, rfl, R2, B⟩
  rw [HPE.out.1] at R2
  rw [HPE.out.2]
  clear fA0 fA1 fA2 lA
  replace R1 := R1.below B
  replace kA := box_below B kA
  replace X := Below.step X B
  have s3 : w2.heap.size ≤ w3.heap.size := B.size
  clear B
  clear R1
  obtain ⟨fA0, fA1, fA2, lA⟩ := box3l kA
  go_wp2_with fail
  refine (toAccount_o _ x _ (HV.out _ X) (by omega) (by omega)).mono ?_
  rintro e w4 ⟨u3, rfl, R3, B⟩
  clear fA0 fA1 fA2 lA
  replace R2 := R2.below B
  replace kA := box_below B kA
  replace X := Below.step X B
  have s4 : w3.heap.size ≤ w4.heap.size := B.size
  clear B
  obtain ⟨p2, q2, rfl, h2p, h2q, -⟩ := R3.v
  obtain ⟨x2, y2, rfl, -⟩ := h2p.form
  obtain ⟨z2, t2, rfl, -⟩ := h2q.form
  clear h2p h2q
  have ab : ∀ o, Below w4.heap.size w4 (w4.alloc o) := fun o => (Below.refl _ _).alloc (Nat.le_refl _) o
  obtain ⟨fA0, fA1, fA2, lA⟩ := box3l kA
  go_wp2_with fail
  refine (implAccountBytes_r _ x _ (R3.below (ab _)).v (by omega)).mono ?_
  rintro e w5 ⟨u4, rfl, R4, B⟩
  rw [HPE.out.1] at R4
  rw [HPE.out.2]
  clear fA0 fA1 fA2 lA
  replace R2 := (R2.below (ab _)).below B
  replace R3 := (R3.below (ab _)).below B
  replace kA := box_below B (box_alloc kA _)
  have kx := box_below B (box_new w4 (.cells #[.int .i64 x.valid, .slice x2 x.boxes.length y2, .slice z2 x.seen.length t2] 32))
  replace X := Below.step (Below.step X (ab _)) B
  have s5 : w4.heap.size + 1 ≤ w5.heap.size := by have := B.size; simp at this; omega
  replace R4 := R4.wide (B' := w4.heap.size + 1) (by simp) (Nat.le_refl _)
  clear B ab
  obtain ⟨fA0, fA1, fA2, lA⟩ := box3l kA
  obtain ⟨fx0, fx1, fx2, lx⟩ := box3l kx
  go_wp2_with fail
  refine (eqByteS_yes _ _ P _ R4.bs R2.bs).mono ?_
  rintro e w6 ⟨rfl, B⟩
  clear fA0 fA1 fA2 lA fx0 fx1 fx2 lx
  replace R2 := R2.below B
  replace R3 := R3.below B
  replace R4 := R4.below B
  replace kA := box_below B kA
  replace kx := box_below B kx
  replace X := Below.step X B
  have s6 : w5.heap.size ≤ w6.heap.size := B.size
  clear B
  have HS : Hid (∀ w', Below w6.heap.size w6 w' → w'.cell? ⟨w4.heap.size, 0, none⟩ = some (.int .i64 x.valid) ∧ w'.cell? ⟨w4.heap.size, 1, none⟩ = some (.slice x2 x.boxes.length y2) ∧ w'.cell? ⟨w4.heap.size, 2, none⟩ = some (.slice z2 x.seen.length t2) ∧ w'.cell? ⟨w.heap.size, 0, none⟩ = some (.int .i64 x.valid) ∧ w'.cell? ⟨w.heap.size, 1, none⟩ = some (.slice e0 x.boxes.length e2) ∧ w'.cell? ⟨w.heap.size, 2, none⟩ = some (.slice e3 x.seen.length e5)) := fun w' h => ⟨(box3l (box_below h kx)).1, (box3l (box_below h kx)).2.1, (box3l (box_below h kx)).2.2.1, (box3l (box_below h kA)).1, (box3l (box_below h kA)).2.1, (box3l (box_below h kA)).2.2.1⟩
  have DR : Below w6.heap.size w6 w6.drew := (Below.refl _ _).drew
  obtain ⟨fA0, fA1, fA2, lA⟩ := box3l kA
  obtain ⟨fx0, fx1, fx2, lx⟩ := box3l kx
  go_wp2
  go_region_held3 (fun w' => w'.cell? ⟨w4.heap.size, 0, none⟩ = some (.int .i64 x.valid) ∧ w'.cell? ⟨w4.heap.size, 1, none⟩ = some (.slice x2 x.boxes.length y2) ∧ w'.cell? ⟨w4.heap.size, 2, none⟩ = some (.slice z2 x.seen.length t2) ∧ w'.cell? ⟨w.heap.size, 0, none⟩ = some (.int .i64 x.valid) ∧ w'.cell? ⟨w.heap.size, 1, none⟩ = some (.slice e0 x.boxes.length e2) ∧ w'.cell? ⟨w.heap.size, 2, none⟩ = some (.slice e3 x.seen.length e5))
    (first | go_keep | exact HS.out _ (Below.step (Below.step DR B) B') | exact HS.out _ (Below.step DR B))
    ((first | (go_at_call 6; refine (toAccount_o _ x _ (HV.out _ (Below.step X DR)) (by omega) (by omega)).mono ?_; rintro e w7 ⟨u5, rfl, R5, B⟩) | (go_at_call 9; refine (eqAccount_yes _ _ x _ ((R3.below DR).below B).v R5.v).mono ?_; rintro e w8 ⟨rfl, B'⟩)))
  clear fA0 fA1 fA2 lA fx0 fx1 fx2 lx
  replace R2 := ((R2.below DR).below B).below B'
  replace R3 := ((R3.below DR).below B).below B'
  replace R4 := ((R4.below DR).below B).below B'
  replace kA := box_below B' (box_below B (box_below DR kA))
  replace kx := box_below B' (box_below B (box_below DR kx))
  replace X := Below.step (Below.step (Below.step X DR) B) B'
  have s8 : w6.heap.size ≤ w8.heap.size := Nat.le_trans B.size B'.size
  clear HS DR B B' R5
  obtain ⟨fA0, fA1, fA2, lA⟩ := box3l kA
  obtain ⟨fx0, fx1, fx2, lx⟩ := box3l kx
  go_wp2_with fail
  refine (markAccount_w _ _ _ x 1 _ R3 (by omega) (by omega) (by omega) (by omega) (by omega)).mono ?_
  rintro e w9 ⟨rfl, R3', G⟩
  clear fA0 fA1 fA2 lA fx0 fx1 fx2 lx
  replace R2 := R2.keptW G (by omega)
  replace R4 := R4.keptW G (by omega)
  replace kA := box_within G kA (by omega)
  replace kx := box_within G kx (by omega)
  replace X := G.below X (by omega)
  have s9 := G.size
  clear G R3
  clear R3'
  clear kx
  obtain ⟨fA0, fA1, fA2, lA⟩ := box3l kA
  go_wp2_with fail
  refine (eqByteS_yes _ _ P _ R4.bs R2.bs).mono ?_
  rintro e w10 ⟨rfl, B⟩
  clear fA0 fA1 fA2 lA
  replace R2 := R2.below B
  replace R4 := R4.below B
  replace kA := box_below B kA
  replace X := Below.step X B
  have s10 : w9.heap.size ≤ w10.heap.size := B.size
  clear B
  obtain ⟨fA0, fA1, fA2, lA⟩ := box3l kA
  go_wp2_with fail
  refine (markByteS_w _ _ _ P 1 _ R4 (by omega) (by omega) (by omega)).mono ?_
  rintro e w11 ⟨rfl, R4', G⟩
  clear fA0 fA1 fA2 lA
  replace R2 := R2.keptW G (by omega)
  replace kA := box_within G kA (by omega)
  replace X := G.below X (by omega)
  have s11 := G.size
  clear G R4
  obtain ⟨fA0, fA1, fA2, lA⟩ := box3l kA
  go_wp2_with fail
  refine (heldByteS_yes _ P.length 1 _ R4'.bs (by omega) (by omega) (by omega)).mono ?_
  rintro e w12 ⟨rfl, B⟩
  clear fA0 fA1 fA2 lA
  replace R2 := R2.below B
  replace R4' := R4'.below B
  replace kA := box_below B kA
  replace X := Below.step X B
  have s12 : w11.heap.size ≤ w12.heap.size := B.size
  clear B
  obtain ⟨fA0, fA1, fA2, lA⟩ := box3l kA
  go_wp2_with fail
  refine (toAccount_o _ x _ (HV.out _ X) (by omega) (by omega)).mono ?_
  rintro e w13 ⟨u6, rfl, R6, B⟩
  clear fA0 fA1 fA2 lA
  replace R2 := R2.below B
  replace R4' := R4'.below B
  replace kA := box_below B kA
  replace X := Below.step X B
  have s13 : w12.heap.size ≤ w13.heap.size := B.size
  clear B
  obtain ⟨fA0, fA1, fA2, lA⟩ := box3l kA
  go_wp2_with fail
  refine (implAccountBytes_r _ x _ R6.v (by omega)).mono ?_
  rintro e w14 ⟨u7, rfl, R7, B⟩
  rw [HPE.out.1] at R7
  rw [HPE.out.2]
  clear fA0 fA1 fA2 lA
  replace R2 := R2.below B
  replace R4' := R4'.below B
  replace R6 := R6.below B
  replace kA := box_below B kA
  replace X := Below.step X B
  have s14 : w13.heap.size ≤ w14.heap.size := B.size
  clear B
  clear R6
  obtain ⟨fA0, fA1, fA2, lA⟩ := box3l kA
  go_wp2_with fail
  refine (eqByteS_yes _ _ P _ R7.bs R2.bs).mono ?_
  rintro e w15 ⟨rfl, B⟩
  clear fA0 fA1 fA2 lA
  replace R2 := R2.below B
  replace R4' := R4'.below B
  replace R7 := R7.below B
  replace kA := box_below B kA
  replace X := Below.step X B
  have s15 : w14.heap.size ≤ w15.heap.size := B.size
  clear B
  clear R7 R2
  obtain ⟨fA0, fA1, fA2, lA⟩ := box3l kA
  go_wp2_with fail
  refine (heldByteS_yes _ P.length 1 _ R4'.bs (by omega) (by omega) (by omega)).mono ?_
  rintro e w16 ⟨rfl, B⟩
  clear fA0 fA1 fA2 lA
  replace R4' := R4'.below B
  replace kA := box_below B kA
  replace X := Below.step X B
  have s16 : w15.heap.size ≤ w16.heap.size := B.size
  clear B
  clear R4' kA
  go_wp2
  go_ret
  exact ⟨rfl, X⟩

end Go.Proofs.Ytjdcjhboipileab

/- From what a row reads of an argument to what the walks ask: a slice of bytes that came in. -/
namespace Go.Proofs.Ytjdcjhboipileab
open Go.ChangeShapes Go.WideShapes Go.ChangeAt Go.RowKit

theorem ownKnob_none : ownKnob Try.prog.godebug = none := by kernel_rfl
theorem laidOut : laidOutB Try.prog = true := by kernel_rfl

theorem wf_byte {n : Int} (h : (Lit.int .u8 n).wf = true) : 0 ≤ n ∧ n ≤ 255 := bounds_u8 h
theorem wf_int {n : Int} (h : (Lit.int .i64 n).wf = true) : -9223372036854775808 ≤ n ∧ n ≤ 9223372036854775807 := bounds_i64 h

/-- A slice of bytes that came in, as the walks want it. -/
theorem open_bytes {H : Type} {enc : TypeId × Value → H} {W : World} {base : Nat} {a : Option Addr} {len cap : Nat} {d : DataW H} {p : List MemPlace}
    (h : DataW.Trod enc Try.prog W base (fun _ => true) true 27 (.slice a len cap) d p) : ∃ l, Bs W (.slice a len cap) l := by
  obtain ⟨fuel, hf⟩ := h
  rcases open_ints Try.underlying27 Try.underlying5 (by kernel_rfl) hf with ⟨hcs, _⟩ | ⟨x, l, c, zs, hcs, _, hl, hm, hz, _, hcell, hwz⟩
  · simp [Value.cells] at hcs
    obtain ⟨rfl, rfl, rfl⟩ := hcs
    exact ⟨[], oct_nil, none, 0, rfl, by simp, by simp, fun _ => rfl, fun h => absurd h (by simp)⟩
  · simp [Value.cells] at hcs
    obtain ⟨rfl, rfl, rfl⟩ := hcs
    simp at hz
    have ht : (zs.take len).length = len := by simp; omega
    refine ⟨zs.take len, fun x hx => wf_byte (hwz x (List.mem_of_mem_take hx)), some x, cap, by rw [ht], by omega, hm, (fun h => by cases h), fun hp => ?_⟩
    rw [ht] at hp
    obtain ⟨b, off, spot⟩ := x
    have h0 := hcell 0 (by omega)
    have hspot : spot = none := by simpa [Addr.add] using World.cell?_spot h0
    subst hspot
    refine ⟨b, off, rfl, ?_, fun i hi => ?_⟩
    · have := World.block_lt_of_cell? W _ h0
      simpa [Addr.add] using this
    · rw [ht] at hi
      have := hcell i (by omega)
      rw [Addr.add_lit] at this
      rw [this]
      simp [hi]

end Go.Proofs.Ytjdcjhboipileab

/- A struct's fields laid open. -/
namespace Go.Proofs.Ytjdcjhboipileab
open Go.ChangeShapes Go.WideShapes Go.ChangeAt Go.RowKit

/-- One field of a struct that is read; it takes one cell. -/
theorem open_field {H : Type} {enc : TypeId × Value → H} {P : Program} {W : World} {base fuel : Nat} {spare : Nat → Bool} {held : Bool} {t : TypeId} {fs : Array Field} {cs : List Value} {x : DataW H × List MemPlace}
    (ht : P.underlying t = some (.struct fs)) (h : DataW.trod enc P W base spare held fuel t cs = some x) (i : Nat) (ty : TypeId) (off : Nat) (c : Value) (hf : fs[i]?.map (fun f => (f.type, f.offset)) = some (ty, off)) (h1 : P.cellsOf ty = 1) (hc : (cs.drop off).take 1 = [c]) :
    ∃ n y, DataW.trod enc P W base spare held n ty [c] = some y := by
  obtain ⟨f, hf0, hf1⟩ := Option.map_eq_some_iff.1 hf
  simp only [Prod.mk.injEq] at hf1
  obtain ⟨rfl, rfl⟩ := hf1
  obtain ⟨xs, n, _, rfl, hl, hlen, hf'⟩ := DataW.trod_struct ht h
  have := hf' i f (by simpa using hf0)
  rw [h1, hc] at this
  have hi : i < xs.length := by rw [hlen]; exact (Array.getElem?_eq_some_iff.1 hf0).1
  exact ⟨n, xs[i], by rw [this, List.getElem?_eq_getElem hi]⟩

/-- One cell that is read as a slice of bytes. -/
theorem open_cellB {H : Type} {enc : TypeId × Value → H} {W : World} {base fuel : Nat} {c : Value} {y : DataW H × List MemPlace}
    (h : DataW.trod enc Try.prog W base (fun _ => true) true fuel 27 [c] = some y) : ∃ l, Bs W c l := by
  have h' := h
  rcases open_ints Try.underlying27 Try.underlying5 (by kernel_rfl) h with ⟨hcs, _⟩ | ⟨x, l, c', zs, hcs, _⟩
  · obtain rfl : c = .slice none 0 0 := by simpa using hcs
    exact open_bytes (d := y.1) (p := y.2) ⟨fuel, by simpa [Value.cells] using h'⟩
  · obtain rfl : c = .slice (some x) l c' := by simpa using hcs
    exact open_bytes (d := y.1) (p := y.2) ⟨fuel, by simpa [Value.cells] using h'⟩
/-- One cell that is read as a number. -/
theorem open_cellI {H : Type} {enc : TypeId × Value → H} {W : World} {base fuel : Nat} {c : Value} {y : DataW H × List MemPlace}
    (h : DataW.trod enc Try.prog W base (fun _ => true) true fuel 3 [c] = some y) : ∃ n, c = .int .i64 n ∧ I64 n := by
  obtain ⟨n, hc, -, hw⟩ := DataW.trod_int Try.underlying3 h
  exact ⟨n, by simpa using hc, wf_int hw⟩

theorem cellsB : Try.prog.cellsOf 27 = 1 := by kernel_rfl
theorem cellsI : Try.prog.cellsOf 3 = 1 := by kernel_rfl

end Go.Proofs.Ytjdcjhboipileab

/- From what a row reads of an argument to what the walks ask: boxes and accounts that came in. -/
namespace Go.Proofs.Ytjdcjhboipileab
open Go.ChangeShapes Go.WideShapes Go.ChangeAt Go.RowKit Go.Deep

theorem list_of {α : Type} {p : Nat → α → Prop} : ∀ (n : Nat), (∀ i, i < n → ∃ x, p i x) → ∃ l : List α, l.length = n ∧ ∀ i x, l[i]? = some x → p i x
  | 0, _ => ⟨[], rfl, by simp⟩
  | n + 1, h => by
    obtain ⟨l, hl, hp⟩ := list_of n (fun i hi => h i (by omega))
    obtain ⟨x, hx⟩ := h n (by omega)
    refine ⟨l ++ [x], by simp [hl], fun i y hy => ?_⟩
    by_cases hi : i < n
    · rw [List.getElem?_append_left (by omega)] at hy
      exact hp i y hy
    · have hlt : i < (l ++ [x]).length := (List.getElem?_eq_some_iff.1 hy).1
      simp at hlt
      obtain rfl : i = n := by omega
      rw [List.getElem?_append_right (by omega)] at hy
      simp [hl] at hy
      subst hy
      exact hx

/-- One cell that is read as a slice of structs. -/
theorem open_rd {α : Type} {E : World → List Value → α → Prop} {H : Type} {enc : TypeId × Value → H} {W : World} {base fuel sz : Nat} {t e : TypeId} {c : Value} {y : DataW H × List MemPlace} (h0 : 0 < sz)
    (ht : Try.prog.underlying t = some (.slice e)) (hc : Try.prog.cellsOf e = sz) (hE : ∀ n cs' y, cs'.length = sz → DataW.trod enc Try.prog W base (fun _ => true) true n e cs' = some y → ∃ x, E W cs' x)
    (h : DataW.trod enc Try.prog W base (fun _ => true) true fuel t [c] = some y) : ∃ l, Rd sz E W c l := by
  rcases open_slice ht h with ⟨hcs, -⟩ | ⟨a, len, cap, m, n, D, Pl, hcs, hb, hl, hm, hmm, -, hel⟩
  · obtain rfl : c = .slice none 0 0 := by simpa using hcs
    exact ⟨[], Rd.nil W⟩
  · obtain rfl : c = .slice (some a) len cap := by simpa using hcs
    simp only [if_true] at hmm
    subst hmm
    rw [hc] at hel
    have key : ∀ i, i < len → ∃ p : List Value × α, W.cells? base (a.add (i * sz)) sz = some p.1 ∧ p.1.length = sz ∧ E W p.1 p.2 := by
      intro i hi
      obtain ⟨cs', h1, h2⟩ := hel i (by omega)
      have hlen := (World.cells?_some h1).2.1
      obtain ⟨x, hx⟩ := hE n cs' _ hlen h2
      exact ⟨(cs', x), h1, hlen, hx⟩
    obtain ⟨ps, hpl, hps⟩ := list_of len key
    refine ⟨ps.map (·.2), some a, m, fun i => ((ps[i]?.map (·.1)).getD []), by simp [hpl], by simp [hpl]; omega, hm, (fun h => by cases h), fun i x hx => ?_, fun hp => ?_⟩
    · rw [List.getElem?_map, Option.map_eq_some_iff] at hx
      obtain ⟨p, hp, rfl⟩ := hx
      obtain ⟨-, q1, q2⟩ := hps i p hp
      simp only [hp, Option.map_some, Option.getD_some]
      exact ⟨q2, q1⟩
    · simp [hpl] at hp
      obtain ⟨b, off, spot⟩ := a
      obtain ⟨p0, hp0⟩ : ∃ p, ps[0]? = some p := ⟨ps[0]'(by omega), List.getElem?_eq_getElem (by omega)⟩
      obtain ⟨k1, k2, -⟩ := hps 0 p0 hp0
      have cell : ∀ i p, ps[i]? = some p → ∀ j u, p.1[j]? = some u → W.cell? (((⟨b, off, spot⟩ : Addr).add (i * sz)).add j) = some u := by
        intro i p hi j u hu
        obtain ⟨k1, k2, -⟩ := hps i p hi
        have hj : j < sz := by have := (List.getElem?_eq_some_iff.1 hu).1; omega
        rw [(World.cells?_some k1).2.2 j hj, hu]
      have c0 := cell 0 p0 hp0 0 (p0.1[0]'(by omega)) (List.getElem?_eq_getElem (by omega))
      have hspot : spot = none := by simpa [Addr.add] using World.cell?_spot c0
      subst hspot
      refine ⟨b, off, rfl, ?_, fun i j u hi hu => ?_⟩
      · have := World.block_lt_of_cell? W _ c0
        simpa [Addr.add] using this
      · obtain ⟨p, hpi⟩ : ∃ p, ps[i]? = some p := ⟨ps[i]'(by simp at hi; omega), List.getElem?_eq_getElem (by simp at hi; omega)⟩
        simp only [hpi, Option.map_some, Option.getD_some] at hu
        have := cell i p hpi j u hu
        simpa [Addr.add_lit, Nat.add_assoc] using this

/-- One cell that is read as a slice of numbers, of mails, of what went, of boxes. -/
theorem open_ints' {H : Type} {enc : TypeId × Value → H} {W : World} {base fuel : Nat} {c : Value} {y : DataW H × List MemPlace}
    (h : DataW.trod enc Try.prog W base (fun _ => true) true fuel 23 [c] = some y) : ∃ l, IntsV W c l := by
  refine open_rd (by omega) Try.underlying23 cellsI (fun n cs' y hl ht => ?_) h
  match cs', hl with
  | [c0], _ =>
    obtain ⟨k, rfl, i0⟩ := open_cellI ht
    exact ⟨k, rfl, i0⟩
theorem open_mails {H : Type} {enc : TypeId × Value → H} {W : World} {base fuel : Nat} {c : Value} {y : DataW H × List MemPlace}
    (h : DataW.trod enc Try.prog W base (fun _ => true) true fuel 55 [c] = some y) : ∃ l, MailsV W c l := by
  refine open_rd (by omega) Try.underlying55 (by kernel_rfl) (fun n cs' y hl hf => ?_) h
  match cs', hl with
  | [c0, c1, c2, c3], _ =>
    have u := Try.underlying91
    obtain ⟨_, _, h0⟩ := open_field u hf 0 3 0 c0 rfl cellsI rfl
    obtain ⟨_, _, h1⟩ := open_field u hf 1 3 1 c1 rfl cellsI rfl
    obtain ⟨_, _, h2⟩ := open_field u hf 2 3 2 c2 rfl cellsI rfl
    obtain ⟨_, _, h3⟩ := open_field u hf 3 27 3 c3 rfl cellsB rfl
    obtain ⟨uid, rfl, i0⟩ := open_cellI h0
    obtain ⟨flags, rfl, i1⟩ := open_cellI h1
    obtain ⟨seq, rfl, i2⟩ := open_cellI h2
    obtain ⟨text, b3⟩ := open_cellB h3
    exact ⟨⟨uid, flags, seq, text⟩, c3, rfl, b3, i0, i1, i2⟩
theorem open_gones {H : Type} {enc : TypeId × Value → H} {W : World} {base fuel : Nat} {c : Value} {y : DataW H × List MemPlace}
    (h : DataW.trod enc Try.prog W base (fun _ => true) true fuel 56 [c] = some y) : ∃ l, GonesV W c l := by
  refine open_rd (by omega) Try.underlying56 (by kernel_rfl) (fun n cs' y hl hf => ?_) h
  match cs', hl with
  | [c0, c1], _ =>
    have u := Try.underlying94
    obtain ⟨_, _, h0⟩ := open_field u hf 0 3 0 c0 rfl cellsI rfl
    obtain ⟨_, _, h1⟩ := open_field u hf 1 3 1 c1 rfl cellsI rfl
    obtain ⟨uid, rfl, i0⟩ := open_cellI h0
    obtain ⟨seq, rfl, i1⟩ := open_cellI h1
    exact ⟨⟨uid, seq⟩, rfl, i0, i1⟩
theorem cellsMs : Try.prog.cellsOf 55 = 1 := by kernel_rfl
theorem cellsGs : Try.prog.cellsOf 56 = 1 := by kernel_rfl
theorem cellsXs : Try.prog.cellsOf 22 = 1 := by kernel_rfl
theorem cellsIs : Try.prog.cellsOf 23 = 1 := by kernel_rfl
theorem open_boxCells {H : Type} {enc : TypeId × Value → H} {W : World} {base n : Nat} {cs' : List Value} {y : DataW H × List MemPlace} (hl : cs'.length = 7)
    (hf : DataW.trod enc Try.prog W base (fun _ => true) true n 58 cs' = some y) : ∃ x, BoxRE W cs' x := by
  match cs', hl with
  | [c0, c1, c2, c3, c4, c5, c6], _ =>
    have u := Try.underlying58
    obtain ⟨_, _, h0⟩ := open_field u hf 0 27 0 c0 rfl cellsB rfl
    obtain ⟨_, _, h1⟩ := open_field u hf 1 3 1 c1 rfl cellsI rfl
    obtain ⟨_, _, h2⟩ := open_field u hf 2 3 2 c2 rfl cellsI rfl
    obtain ⟨_, _, h3⟩ := open_field u hf 3 3 3 c3 rfl cellsI rfl
    obtain ⟨_, _, h4⟩ := open_field u hf 4 55 4 c4 rfl cellsMs rfl
    obtain ⟨_, _, h5⟩ := open_field u hf 5 56 5 c5 rfl cellsGs rfl
    obtain ⟨_, _, h6⟩ := open_field u hf 6 3 6 c6 rfl cellsI rfl
    obtain ⟨name, b0⟩ := open_cellB h0
    obtain ⟨valid, rfl, i1⟩ := open_cellI h1
    obtain ⟨next, rfl, i2⟩ := open_cellI h2
    obtain ⟨seq, rfl, i3⟩ := open_cellI h3
    obtain ⟨mails, b4⟩ := open_mails h4
    obtain ⟨gones, b5⟩ := open_gones h5
    obtain ⟨lost, rfl, i6⟩ := open_cellI h6
    exact ⟨⟨name, valid, next, seq, mails, gones, lost⟩, c0, c4, c5, rfl, b0, b4, b5, i1, i2, i3, i6⟩
/-- A box, an account that came in, as the walks want it. -/
theorem open_box {H : Type} {enc : TypeId × Value → H} {W : World} {base : Nat} {cs : Array Value} {d : DataW H} {p : List MemPlace} (hs : cs.size = 7)
    (h : DataW.Trod enc Try.prog W base (fun _ => true) true 58 (.agg cs) d p) : ∃ x, BoxV W (.agg cs) x := by
  obtain ⟨fuel, hf⟩ := h
  obtain ⟨cs⟩ := cs
  obtain ⟨x, u0, u1, u2, e, r⟩ := open_boxCells (cs' := cs) (by simpa using hs) hf
  subst e
  exact ⟨x, u0, u1, u2, rfl, r⟩
theorem open_account {H : Type} {enc : TypeId × Value → H} {W : World} {base : Nat} {cs : Array Value} {d : DataW H} {p : List MemPlace} (hs : cs.size = 3)
    (h : DataW.Trod enc Try.prog W base (fun _ => true) true 25 (.agg cs) d p) : ∃ x, AccV W (.agg cs) x := by
  obtain ⟨fuel, hf⟩ := h
  obtain ⟨cs⟩ := cs
  match cs, hs with
  | [c0, c1, c2], _ =>
    have u := Try.underlying25
    obtain ⟨_, _, h0⟩ := open_field u hf 0 3 0 c0 rfl cellsI rfl
    obtain ⟨_, _, h1⟩ := open_field u hf 1 22 1 c1 rfl cellsXs rfl
    obtain ⟨_, _, h2⟩ := open_field u hf 2 23 2 c2 rfl cellsIs rfl
    obtain ⟨valid, rfl, i0⟩ := open_cellI h0
    obtain ⟨boxes, b1⟩ := open_rd (by omega) Try.underlying22 (by kernel_rfl) (fun n cs' y hl hf => open_boxCells hl hf) h1
    obtain ⟨seen, b2⟩ := open_ints' h2
    exact ⟨⟨valid, boxes, seen⟩, c1, c2, rfl, b1, b2, i0⟩

end Go.Proofs.Ytjdcjhboipileab
