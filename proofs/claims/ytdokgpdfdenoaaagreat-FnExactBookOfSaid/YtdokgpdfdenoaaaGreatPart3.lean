/- The proof's texts, part 3. -/
import Derived.Test.YtdokgpdfdenoaaaGreatPart2
import Derived.Deep.RegionHeld3
import Derived.Test.YtdokgpdfdenoaaaGreatPart1

/- Lists of records in memory: what they read as, and those of the call's own. -/
namespace Go.Proofs.YtdokgpdfdenoaaaGreat
open Go.RowKit

def RecRE (w : World) (c : List Value) (r : RecD) : Prop := RecV w (.agg c.toArray) r
abbrev RecsV := Rd 14 RecRE
theorem keepsRec : Keeps RecRE := fun _ _ _ _ hb h => RecV.below h hb
/-- A record of the call's own, by the sets of its blocks. -/
def RecE (w : World) (c : List Value) (r : RecD) (S : Nat → Prop) : Prop :=
  ∃ u0 u1 u2 u3 u4 S0 S1 S2 S3 S4, c = [.int .i64 r.kind, .int .i64 r.user, .int .i64 r.n, .int .i64 r.cmd.k, u0, u1, .int .i64 r.cmd.uid, .int .i64 r.cmd.mode, .int .i64 r.cmd.fl, .int .i64 r.cmd.si, u2, .int .i64 r.acc.valid, u3, u4] ∧ RO w S0 u0 r.cmd.bx ∧ RO w S1 u1 r.cmd.tt ∧ RO w S2 u2 r.cmd.tx ∧ BoxesO w S3 u3 r.acc.boxes ∧ IntsO w S4 u4 r.acc.seen ∧ ((∀ x, S0 x → S x ∧ ¬ S1 x ∧ ¬ S2 x ∧ ¬ S3 x ∧ ¬ S4 x) ∧ (∀ x, S1 x → S x ∧ ¬ S2 x ∧ ¬ S3 x ∧ ¬ S4 x) ∧ (∀ x, S2 x → S x ∧ ¬ S3 x ∧ ¬ S4 x) ∧ (∀ x, S3 x → S x ∧ ¬ S4 x) ∧ (∀ x, S4 x → S x)) ∧ I64 r.kind ∧ I64 r.user ∧ I64 r.n ∧ I64 r.cmd.k ∧ I64 r.cmd.uid ∧ I64 r.cmd.mode ∧ I64 r.cmd.fl ∧ I64 r.cmd.si ∧ I64 r.acc.valid
theorem framesRec : Frames RecE := fun _ _ _ _ _ h hw =>
  let ⟨u0, u1, u2, u3, u4, S0, S1, S2, S3, S4, h0, h1, h2, h3, h4, h5, d, r⟩ := h
  ⟨u0, u1, u2, u3, u4, S0, S1, S2, S3, S4, h0, h1.frame fun b hb => hw b (d.1 b hb).1, h2.frame fun b hb => hw b (d.2.1 b hb).1, h3.frame fun b hb => hw b (d.2.2.1 b hb).1, h4.frame framesBox fun b hb => hw b (d.2.2.2.1 b hb).1, h5.frame framesInt fun b hb => hw b (d.2.2.2.2 b hb), d, r⟩
instance : Fr RecE := ⟨framesRec⟩
abbrev RecsO := Ow 53 14 RecE
abbrev RecsR := OwR 53 14 RecE
theorem RecE.rd {w : World} {c : List Value} {r : RecD} {S : Nat → Prop} (h : RecE w c r S) : RecRE w c r := by
  obtain ⟨u0, u1, u2, u3, u4, S0, S1, S2, S3, S4, rfl, h1, h2, h3, h4, h5, -, i0, i1, i2, i3, i4, i5, i6, i7, i8⟩ := h
  exact ⟨u0, u1, u2, u3, u4, rfl, ⟨_, _, _, rfl, h1.bs, h2.bs, h3.bs, i3, i4, i5, i6, i7⟩, ⟨_, _, rfl, h4.rd fun _ _ _ _ => BoxE.rd, h5.rd fun _ _ _ _ h => h, i8⟩, i0, i1, i2⟩
theorem RecsO.v {w : World} {S : Nat → Prop} {v : Value} {l : List RecD} (h : RecsO w S v l) : RecsV w v l := h.rd fun _ _ _ _ => RecE.rd
theorem RecsR.v {w : World} {B T : Nat} {v : Value} {l : List RecD} (h : RecsR w B T v l) : RecsV w v l := RecsO.v h
/-- A record of the call's own, by intervals, is one by sets. -/
theorem RecR.e {w : World} {B T : Nat} {x0 x1 x2 x3 x4 : Value} {r : RecD} (h : RecR w B T (.agg #[.int .i64 r.kind, .int .i64 r.user, .int .i64 r.n, .int .i64 r.cmd.k, x0, x1, .int .i64 r.cmd.uid, .int .i64 r.cmd.mode, .int .i64 r.cmd.fl, .int .i64 r.cmd.si, x2, .int .i64 r.acc.valid, x3, x4]) r) : RecE w [.int .i64 r.kind, .int .i64 r.user, .int .i64 r.n, .int .i64 r.cmd.k, x0, x1, .int .i64 r.cmd.uid, .int .i64 r.cmd.mode, .int .i64 r.cmd.fl, .int .i64 r.cmd.si, x2, .int .i64 r.acc.valid, x3, x4] r (In B T) := by
  obtain ⟨u0, u1, u2, u3, u4, T0, e, ⟨v0, v1, v2, Ta, Tb, e1, g0, g1, g2, t0, t1, t2, i3, i4, i5, i6, i7⟩, ⟨v3, v4, S3, S4, e2, g3, g4, d3, d4, i8⟩, j0, j1, i0, i1, i2⟩ := h
  simp only [Value.agg.injEq, Array.mk.injEq, List.cons.injEq, and_true, true_and] at e e1 e2
  obtain ⟨rfl, rfl, rfl, rfl, rfl⟩ := e
  obtain ⟨rfl, rfl, rfl⟩ := e1
  obtain ⟨rfl, rfl⟩ := e2
  refine ⟨_, _, _, _, _, In B Ta, In Ta Tb, In Tb T0, S3, S4, rfl, g0.ro, g1.ro, g2.ro, g3, g4, ⟨fun x hx => ?_, fun x hx => ?_, fun x hx => ?_, fun x hx => ?_, fun x hx => ?_⟩, i0, i1, i2, i3, i4, i5, i6, i7, i8⟩
  · have h0 := hx.1; have h1 := hx.2
    exact ⟨⟨h0, by omega⟩, fun h => by have := h.1; omega, fun h => by have := h.1; omega, fun h => by have := (d3 x h).1.1; omega, fun h => by have := (d4 x h).1; omega⟩
  · have h0 := hx.1; have h1 := hx.2
    exact ⟨⟨by omega, by omega⟩, fun h => by have := h.1; omega, fun h => by have := (d3 x h).1.1; omega, fun h => by have := (d4 x h).1; omega⟩
  · have h0 := hx.1; have h1 := hx.2
    exact ⟨⟨by omega, by omega⟩, fun h => by have := (d3 x h).1.1; omega, fun h => by have := (d4 x h).1; omega⟩
  · have := d3 x hx
    exact ⟨⟨by have := this.1.1; omega, this.1.2⟩, this.2⟩
  · have := d4 x hx
    exact ⟨by have := this.1; omega, this.2⟩
/-- An element of a list of records, its cells. -/
theorem RecsV.cell {w : World} {v : Value} {l : List RecD} (h : RecsV w v l) (k : Nat) (x : RecD) (hx : l[k]? = some x) : ∃ b off cap a0 n0 c0 a1 n1 c1 a2 n2 c2 a3 c3 a4 c4, v = .slice (some ⟨b, off, none⟩) l.length cap ∧ b < w.heap.size ∧ w.cell? ⟨b, off + k * 14, none⟩ = some (.int .i64 x.kind) ∧ w.cell? ⟨b, off + k * 14 + 1, none⟩ = some (.int .i64 x.user) ∧ w.cell? ⟨b, off + k * 14 + 2, none⟩ = some (.int .i64 x.n) ∧ w.cell? ⟨b, off + k * 14 + 3, none⟩ = some (.int .i64 x.cmd.k) ∧ w.cell? ⟨b, off + k * 14 + 4, none⟩ = some (.slice a0 n0 c0) ∧ w.cell? ⟨b, off + k * 14 + 5, none⟩ = some (.slice a1 n1 c1) ∧ w.cell? ⟨b, off + k * 14 + 6, none⟩ = some (.int .i64 x.cmd.uid) ∧ w.cell? ⟨b, off + k * 14 + 7, none⟩ = some (.int .i64 x.cmd.mode) ∧ w.cell? ⟨b, off + k * 14 + 8, none⟩ = some (.int .i64 x.cmd.fl) ∧ w.cell? ⟨b, off + k * 14 + 9, none⟩ = some (.int .i64 x.cmd.si) ∧ w.cell? ⟨b, off + k * 14 + 10, none⟩ = some (.slice a2 n2 c2) ∧ w.cell? ⟨b, off + k * 14 + 11, none⟩ = some (.int .i64 x.acc.valid) ∧ w.cell? ⟨b, off + k * 14 + 12, none⟩ = some (.slice a3 x.acc.boxes.length c3) ∧ w.cell? ⟨b, off + k * 14 + 13, none⟩ = some (.slice a4 x.acc.seen.length c4) ∧ RecV w (.agg #[.int .i64 x.kind, .int .i64 x.user, .int .i64 x.n, .int .i64 x.cmd.k, .slice a0 n0 c0, .slice a1 n1 c1, .int .i64 x.cmd.uid, .int .i64 x.cmd.mode, .int .i64 x.cmd.fl, .int .i64 x.cmd.si, .slice a2 n2 c2, .int .i64 x.acc.valid, .slice a3 x.acc.boxes.length c3, .slice a4 x.acc.seen.length c4]) x := by
  obtain ⟨b, off, cap, c, hv, hlt, hE, hl, hc⟩ := h.get k x hx
  have hE' : RecV w (.agg c.toArray) x := hE
  obtain ⟨a0, n0, c0, a1, n1, c1, a2, n2, c2, a3, c3, a4, c4, e⟩ := hE'.form
  obtain rfl : c = [.int .i64 x.kind, .int .i64 x.user, .int .i64 x.n, .int .i64 x.cmd.k, .slice a0 n0 c0, .slice a1 n1 c1, .int .i64 x.cmd.uid, .int .i64 x.cmd.mode, .int .i64 x.cmd.fl, .int .i64 x.cmd.si, .slice a2 n2 c2, .int .i64 x.acc.valid, .slice a3 x.acc.boxes.length c3, .slice a4 x.acc.seen.length c4] := by
    have := congrArg (fun v => match v with | .agg c => c.toList | _ => []) e
    simpa using this
  exact ⟨b, off, cap, a0, n0, c0, a1, n1, c1, a2, n2, c2, a3, c3, a4, c4, hv, hlt, by simpa using hc 0 _ rfl, by simpa using hc 1 _ rfl, by simpa using hc 2 _ rfl, by simpa using hc 3 _ rfl, by simpa using hc 4 _ rfl, by simpa using hc 5 _ rfl, by simpa using hc 6 _ rfl, by simpa using hc 7 _ rfl, by simpa using hc 8 _ rfl, by simpa using hc 9 _ rfl, by simpa using hc 10 _ rfl, by simpa using hc 11 _ rfl, by simpa using hc 12 _ rfl, by simpa using hc 13 _ rfl, hE'⟩
def szRec (r : RecD) : Nat := r.cmd.bx.length + r.cmd.tt.length + r.cmd.tx.length + (szXs r.acc.boxes + r.acc.seen.length)
def szRecs (l : List RecD) : Nat := (l.map fun r => szRec r + 1).sum
theorem szRecs_mem {l : List RecD} {r : RecD} (h : r ∈ l) : szRec r + 1 ≤ szRecs l := by
  induction l with
  | nil => cases h
  | cons x l ih =>
    simp only [szRecs, List.map_cons, List.sum_cons] at ih ⊢
    rcases List.mem_cons.1 h with rfl | h
    · omega
    · have := ih h; omega
theorem szRecs_len (l : List RecD) : l.length ≤ szRecs l := by
  induction l with
  | nil => simp [szRecs]
  | cons x l ih => simp only [szRecs, List.map_cons, List.sum_cons, List.length_cons] at ih ⊢; omega
theorem szRecs_tot (l : List RecD) : szRecs l = l.length + (l.map szRec).sum := by
  induction l with
  | nil => simp [szRecs]
  | cons x l ih => simp only [szRecs, List.map_cons, List.sum_cons, List.length_cons] at ih ⊢; omega

end Go.Proofs.YtdokgpdfdenoaaaGreat

/- What szRecordS, toRecordS of package laws do of lists of records. -/
namespace Go.Proofs.YtdokgpdfdenoaaaGreat
open Go.RowKit
set_option maxRecDepth 100000
set_option linter.unusedVariables false

set_option maxRecDepth 100000 in
set_option maxHeartbeats 1000000 in
theorem szRecordS_any (v : Value) (l : List RecD) (left : Int) (w : World) (hv : RecsV w v l) (h0 : 0 ≤ left) (h1 : left ≤ 4000000) :
    Calls Tryz.prog 4 #[v, .int .i64 left] w fun e w' => ∃ y : Int, e = .returned (.int .i64 y) ∧ (y = -1 ∨ (0 ≤ y ∧ y + szRecs l = left)) ∧ Below w.heap.size w w' := by
  have HV : Hid (∀ wi, Below w.heap.size w wi → RecsV wi v l) := fun wi h => hv.below keepsRec h
  obtain ⟨a, cap, rfl, hlc, hcm⟩ := hv.form
  clear hv
  by_cases hb : left - (l.length : Int) < 0
  · go_enter Tryz.func4, Tryz.ntmps4
    go_wp2
    go_ret
    exact ⟨-1, rfl, .inl rfl, Below.refl _ _⟩
  · go_enter Tryz.func4, Tryz.ntmps4
    go_wp2
    go_loopw [1, 5] (fun q i wr => ∃ (k : Nat) (y : Int), k ≤ l.length ∧ i = .int .i64 k ∧ q = .int .i64 y ∧ 0 ≤ y ∧ Hid (y + l.length + tot szRec (l.take k) = left) ∧ Hid (Below w.heap.size w wr)) (fun _ i _ => l.length - (intOf i).toNat)
    case atStart => exact ⟨0, left - l.length, Nat.zero_le _, rfl, rfl, by omega, (show Hid _ from by simp [Hid, tot]), Below.refl _ _⟩
    case round =>
      obtain ⟨k, y, hk, rfl, rfl, hy0, hy1, hB⟩ := hrel
      by_cases hlt : k < l.length
      · obtain ⟨x, hx⟩ : ∃ x, l[k]? = some x := ⟨l[k], List.getElem?_eq_getElem hlt⟩
        obtain ⟨b, off, cap', a0, n0, c0, a1, n1, c1, a2, n2, c2, a3, c3, a4, c4, hv', hlb, d0, d1, d2, d3, d4, d5, d6, d7, d8, d9, d10, d11, d12, d13, hRV⟩ := RecsV.cell (HV.out wr hB.out) k x hx
        simp only [Value.slice.injEq, true_and] at hv'
        obtain ⟨rfl, rfl⟩ := hv'
        have HT : Hid (tot szRec (l.take (k + 1)) = tot szRec (l.take k) + szRec x) := tot_succ _ hx
        have HR : Hid (RecV wr (.agg #[.int .i64 x.kind, .int .i64 x.user, .int .i64 x.n, .int .i64 x.cmd.k, .slice a0 n0 c0, .slice a1 n1 c1, .int .i64 x.cmd.uid, .int .i64 x.cmd.mode, .int .i64 x.cmd.fl, .int .i64 x.cmd.si, .slice a2 n2 c2, .int .i64 x.acc.valid, .slice a3 x.acc.boxes.length c3, .slice a4 x.acc.seen.length c4]) x) := hRV
        clear hRV
        go_wp2_with fail
        refine (szRecord_any _ x _ _ HR.out hy0 (by have := hy1.out; omega)).mono ?_
        rintro e w2 ⟨y2, rfl, hy2, B⟩
        have HB2 : Hid (Below w.heap.size w w2) := Below.step hB.out B
        clear B hB HR d0 d1 d2 d3 d4 d5 d6 d7 d8 d9 d10 d11 d12 d13
        rcases hy2 with rfl | ⟨q0, q1⟩
        · go_wp2
          go_ret
          exact ⟨-1, rfl, .inl rfl, HB2.out⟩
        · have hq : Hid (y2 + l.length + tot szRec (l.take (k + 1)) = left) := by
            show _ = _
            rw [HT.out]; have := hy1.out; simp only [szRec]; omega
          clear hy1 HT q1
          go_wp2
          go_roundw
          case rel => exact ⟨k + 1, y2, by omega, by go_num, rfl, q0, hq, HB2⟩
          case measure => simp [intOf]; omega
      · obtain rfl : k = l.length := by omega
        go_wp2
        go_ret
        refine ⟨y, rfl, .inr ⟨hy0, ?_⟩, hB.out⟩
        have := hy1.out
        rw [List.take_length] at this
        rw [szRecs_tot]
        simp only [tot] at this
        omega

theorem infoRecord : (Tryz.prog.info? 53).map (fun i => (i.zero, i.size, i.bytes)) = some (some (.agg #[.int .i64 0, .int .i64 0, .int .i64 0, .int .i64 0, .slice none 0 0, .slice none 0 0, .int .i64 0, .int .i64 0, .int .i64 0, .int .i64 0, .slice none 0 0, .int .i64 0, .slice none 0 0, .slice none 0 0]), 14, 192) := by kernel_rfl
set_option maxRecDepth 100000 in
set_option maxHeartbeats 2000000 in
theorem toRecordS_r (v : Value) (l : List RecD) (w : World) (hv : RecsV w v l) (hl : szRecs l ≤ 2000000) :
    Calls Tryz.prog 6 #[v] w fun e w' => ∃ u, e = .returned u ∧ RecsR w' w.heap.size w'.heap.size u l ∧ Below w.heap.size w w' := by
  have HV : Hid (∀ wi, Below w.heap.size w wi → RecsV wi v l) := fun wi h => hv.below keepsRec h
  obtain ⟨a, cap, rfl, hlc, hcm⟩ := hv.form
  have hll : l.length ≤ 2000000 := by have := szRecs_len l; omega
  clear hv
  obtain ⟨i0, hi, hz0, hz1, hz2⟩ := info_parts infoRecord
  go_enter Tryz.func6, Tryz.ntmps6
  go_wp2_with (at_make; refine wpList_make_full _ rfl _ _ 29 rfl w.heap.size 53 i0 (.agg #[.int .i64 0, .int .i64 0, .int .i64 0, .int .i64 0, .slice none 0 0, .slice none 0 0, .int .i64 0, .int .i64 0, .int .i64 0, .int .i64 0, .slice none 0 0, .int .i64 0, .slice none 0 0, .slice none 0 0]) 14 Tryz.underlying29 hi hz0 hz1 _ _ _ _ l.length rfl rfl rfl rfl ?b1 ?b2 ?b3 ?_)
  case b1 => rw [hz2]; omega
  case b2 => unfold maxLen; omega
  case b3 => exact Nat.le_refl _
  intro w1 hown hgrow
  have HB : Hid (Below w.heap.size w w1) := (Below.refl w.heap.size w).grown hgrow (Nat.le_refl _) (by simp)
  have HP : Hid (Part 53 14 RecE w1 w.heap.size l.length 0 l) := by obtain ⟨cur, h1, h2⟩ := made_part hown; exact Part.start h1 h2
  clear hown hgrow hi hz0 hz1 hz2
  go_wp2
  go_loopw [4] (fun i wr => ∃ k : Nat, k ≤ l.length ∧ i = .int .i64 k ∧ Hid (Part 53 14 RecE wr w.heap.size l.length k l) ∧ Hid (Below w.heap.size w wr)) (fun i _ => l.length - (intOf i).toNat)
  case atStart => exact ⟨0, Nat.zero_le _, rfl, HP, HB⟩
  case round =>
    obtain ⟨k, hk, rfl, hP, hB⟩ := hrel
    by_cases hlt : k < l.length
    · obtain ⟨x, hx⟩ : ∃ x, l[k]? = some x := ⟨l[k], List.getElem?_eq_getElem hlt⟩
      obtain ⟨b, off, cap', a0, n0, c0, a1, n1, c1, a2, n2, c2, a3, c3, a4, c4, hv', hlb, d0, d1, d2, d3, d4, d5, d6, d7, d8, d9, d10, d11, d12, d13, hRV⟩ := RecsV.cell (HV.out wr hB.out) k x hx
      simp only [Value.slice.injEq, true_and] at hv'
      obtain ⟨rfl, rfl⟩ := hv'
      have hxs := szRecs_mem (List.mem_of_getElem? hx)
      simp only [szRec] at hxs
      have HR : Hid (RecV wr (.agg #[.int .i64 x.kind, .int .i64 x.user, .int .i64 x.n, .int .i64 x.cmd.k, .slice a0 n0 c0, .slice a1 n1 c1, .int .i64 x.cmd.uid, .int .i64 x.cmd.mode, .int .i64 x.cmd.fl, .int .i64 x.cmd.si, .slice a2 n2 c2, .int .i64 x.acc.valid, .slice a3 x.acc.boxes.length c3, .slice a4 x.acc.seen.length c4]) x) := hRV
      clear hRV
      go_wp2_with fail
      refine (toRecord_r _ x _ HR.out (by omega) (by omega) (by omega) (by omega) (by omega)).mono ?_
      rintro e w2 ⟨uu, rfl, hr, B⟩
      obtain ⟨xa, xn, xc, ya, yn, yc, za, zn, zc, ta, tc, va, vc, rfl⟩ := hr.v.form
      have he := hr.e
      clear hr HR d0 d1 d2 d3 d4 d5 d6 d7 d8 d9 d10 d11 d12 d13
      have hs2 := B.size
      have HS : Hid (Part 53 14 RecE (put w2 w.heap.size (k * 14) [.int .i64 x.kind, .int .i64 x.user, .int .i64 x.n, .int .i64 x.cmd.k, .slice xa xn xc, .slice ya yn yc, .int .i64 x.cmd.uid, .int .i64 x.cmd.mode, .int .i64 x.cmd.fl, .int .i64 x.cmd.si, .slice za zn zc, .int .i64 x.acc.valid, .slice ta x.acc.boxes.length tc, .slice va x.acc.seen.length vc]) w.heap.size l.length (k + 1) l) := Part.step framesRec hP.out B x hx hlt _ rfl he
      have HB2 : Hid (Below w.heap.size w w2) := Below.step hB.out B
      have hgl := hP.out.lt
      have hgl2 : w.heap.size < w2.heap.size := by omega
      obtain ⟨q0, t0⟩ := (show ∃ u, w2.cell? ⟨w.heap.size, k * 14, none⟩ = some u from by obtain ⟨⟨u, hu⟩, -⟩ := hP.out.cell (k * 14) (by omega); exact ⟨u, (B.cell (p := ⟨w.heap.size, k * 14, none⟩) hgl).trans hu⟩)
      obtain ⟨q1, t1⟩ := (show ∃ u, w2.cell? ⟨w.heap.size, k * 14 + 1, none⟩ = some u from by obtain ⟨⟨u, hu⟩, -⟩ := hP.out.cell (k * 14 + 1) (by omega); exact ⟨u, (B.cell (p := ⟨w.heap.size, k * 14 + 1, none⟩) hgl).trans hu⟩)
      obtain ⟨q2, t2⟩ := (show ∃ u, w2.cell? ⟨w.heap.size, k * 14 + 2, none⟩ = some u from by obtain ⟨⟨u, hu⟩, -⟩ := hP.out.cell (k * 14 + 2) (by omega); exact ⟨u, (B.cell (p := ⟨w.heap.size, k * 14 + 2, none⟩) hgl).trans hu⟩)
      obtain ⟨q3, t3⟩ := (show ∃ u, w2.cell? ⟨w.heap.size, k * 14 + 3, none⟩ = some u from by obtain ⟨⟨u, hu⟩, -⟩ := hP.out.cell (k * 14 + 3) (by omega); exact ⟨u, (B.cell (p := ⟨w.heap.size, k * 14 + 3, none⟩) hgl).trans hu⟩)
      obtain ⟨q4, t4⟩ := (show ∃ u, w2.cell? ⟨w.heap.size, k * 14 + 4, none⟩ = some u from by obtain ⟨⟨u, hu⟩, -⟩ := hP.out.cell (k * 14 + 4) (by omega); exact ⟨u, (B.cell (p := ⟨w.heap.size, k * 14 + 4, none⟩) hgl).trans hu⟩)
      obtain ⟨q5, t5⟩ := (show ∃ u, w2.cell? ⟨w.heap.size, k * 14 + 5, none⟩ = some u from by obtain ⟨⟨u, hu⟩, -⟩ := hP.out.cell (k * 14 + 5) (by omega); exact ⟨u, (B.cell (p := ⟨w.heap.size, k * 14 + 5, none⟩) hgl).trans hu⟩)
      obtain ⟨q6, t6⟩ := (show ∃ u, w2.cell? ⟨w.heap.size, k * 14 + 6, none⟩ = some u from by obtain ⟨⟨u, hu⟩, -⟩ := hP.out.cell (k * 14 + 6) (by omega); exact ⟨u, (B.cell (p := ⟨w.heap.size, k * 14 + 6, none⟩) hgl).trans hu⟩)
      obtain ⟨q7, t7⟩ := (show ∃ u, w2.cell? ⟨w.heap.size, k * 14 + 7, none⟩ = some u from by obtain ⟨⟨u, hu⟩, -⟩ := hP.out.cell (k * 14 + 7) (by omega); exact ⟨u, (B.cell (p := ⟨w.heap.size, k * 14 + 7, none⟩) hgl).trans hu⟩)
      obtain ⟨q8, t8⟩ := (show ∃ u, w2.cell? ⟨w.heap.size, k * 14 + 8, none⟩ = some u from by obtain ⟨⟨u, hu⟩, -⟩ := hP.out.cell (k * 14 + 8) (by omega); exact ⟨u, (B.cell (p := ⟨w.heap.size, k * 14 + 8, none⟩) hgl).trans hu⟩)
      obtain ⟨q9, t9⟩ := (show ∃ u, w2.cell? ⟨w.heap.size, k * 14 + 9, none⟩ = some u from by obtain ⟨⟨u, hu⟩, -⟩ := hP.out.cell (k * 14 + 9) (by omega); exact ⟨u, (B.cell (p := ⟨w.heap.size, k * 14 + 9, none⟩) hgl).trans hu⟩)
      obtain ⟨q10, t10⟩ := (show ∃ u, w2.cell? ⟨w.heap.size, k * 14 + 10, none⟩ = some u from by obtain ⟨⟨u, hu⟩, -⟩ := hP.out.cell (k * 14 + 10) (by omega); exact ⟨u, (B.cell (p := ⟨w.heap.size, k * 14 + 10, none⟩) hgl).trans hu⟩)
      obtain ⟨q11, t11⟩ := (show ∃ u, w2.cell? ⟨w.heap.size, k * 14 + 11, none⟩ = some u from by obtain ⟨⟨u, hu⟩, -⟩ := hP.out.cell (k * 14 + 11) (by omega); exact ⟨u, (B.cell (p := ⟨w.heap.size, k * 14 + 11, none⟩) hgl).trans hu⟩)
      obtain ⟨q12, t12⟩ := (show ∃ u, w2.cell? ⟨w.heap.size, k * 14 + 12, none⟩ = some u from by obtain ⟨⟨u, hu⟩, -⟩ := hP.out.cell (k * 14 + 12) (by omega); exact ⟨u, (B.cell (p := ⟨w.heap.size, k * 14 + 12, none⟩) hgl).trans hu⟩)
      obtain ⟨q13, t13⟩ := (show ∃ u, w2.cell? ⟨w.heap.size, k * 14 + 13, none⟩ = some u from by obtain ⟨⟨u, hu⟩, -⟩ := hP.out.cell (k * 14 + 13) (by omega); exact ⟨u, (B.cell (p := ⟨w.heap.size, k * 14 + 13, none⟩) hgl).trans hu⟩)
      have fz : ∀ i, w2.frozen? ⟨w.heap.size, i, none⟩ = false := by
        intro i
        obtain ⟨cur, cs, fs, hh, -⟩ := hP.out
        exact frozen_of_row w2 w.heap.size i cur 53 (box_below B hh)
      clear hP hB B he
      go_wp2
      go_roundw
      case rel => exact ⟨k + 1, by omega, by go_num, HS, put_below HB2.out (Nat.le_refl _) (k * 14) [.int .i64 x.kind, .int .i64 x.user, .int .i64 x.n, .int .i64 x.cmd.k, .slice xa xn xc, .slice ya yn yc, .int .i64 x.cmd.uid, .int .i64 x.cmd.mode, .int .i64 x.cmd.fl, .int .i64 x.cmd.si, .slice za zn zc, .int .i64 x.acc.valid, .slice ta x.acc.boxes.length tc, .slice va x.acc.seen.length vc]⟩
      case measure => simp [intOf]; omega
    · obtain rfl : k = l.length := by omega
      go_wp2
      go_ret
      exact ⟨_, rfl, Part.done hP.out rfl (by unfold maxLen; omega) (Nat.le_refl _), hB.out⟩

end Go.Proofs.YtdokgpdfdenoaaaGreat

/- What eqRecordS of package laws do of lists of records. -/
namespace Go.Proofs.YtdokgpdfdenoaaaGreat
open Go.RowKit
set_option maxRecDepth 100000
set_option linter.unusedVariables false

set_option maxRecDepth 100000 in
set_option maxHeartbeats 2000000 in
theorem eqRecordS_yes (v u : Value) (l : List RecD) (w : World) (hv : RecsV w v l) (hu : RecsV w u l) :
    Calls Tryz.prog 9 #[v, u] w fun e w' => e = .returned (.bool true) ∧ Below w.heap.size w w' := by
  have HV : Hid (∀ wi, Below w.heap.size w wi → RecsV wi v l ∧ RecsV wi u l) := fun wi h => ⟨hv.below keepsRec h, hu.below keepsRec h⟩
  obtain ⟨a, cap, rfl, hlc, hcm⟩ := hv.form
  obtain ⟨a2, cap2, rfl, hlc2, hcm2⟩ := hu.form
  clear hv hu
  go_enter Tryz.func9, Tryz.ntmps9
  go_wp2
  go_loopw [5] (fun i wr => ∃ k : Nat, k ≤ l.length ∧ i = .int .i64 k ∧ Hid (Below w.heap.size w wr)) (fun i _ => l.length - (intOf i).toNat)
  case atStart => exact ⟨0, Nat.zero_le _, rfl, Below.refl _ _⟩
  case round =>
    obtain ⟨k, hk, rfl, hB⟩ := hrel
    by_cases hlt : k < l.length
    · obtain ⟨x, hx⟩ : ∃ x, l[k]? = some x := ⟨l[k], List.getElem?_eq_getElem hlt⟩
      have DR : Below wr.heap.size wr wr.drew := (Below.refl _ _).drew
      obtain ⟨b, off, cap', a0, n0, c0, a1, n1, c1, a2, n2, c2, a3, c3, a4, c4, hv', hlb, d0, d1, d2, d3, d4, d5, d6, d7, d8, d9, d10, d11, d12, d13, hRV⟩ := RecsV.cell (HV.out wr hB.out).1 k x hx
      obtain ⟨bq, offq, cap2', b0, m0, e0, b1, m1, e1, b2, m2, e2, b3, e3, b4, e4, hv2, hlb2, z0, z1, z2, z3, z4, z5, z6, z7, z8, z9, z10, z11, z12, z13, hRV2⟩ := RecsV.cell (HV.out wr hB.out).2 k x hx
      simp only [Value.slice.injEq, true_and] at hv' hv2
      obtain ⟨rfl, rfl⟩ := hv'
      obtain ⟨rfl, rfl⟩ := hv2
      have HA : Hid (RecV wr.drew (.agg #[.int .i64 x.kind, .int .i64 x.user, .int .i64 x.n, .int .i64 x.cmd.k, .slice a0 n0 c0, .slice a1 n1 c1, .int .i64 x.cmd.uid, .int .i64 x.cmd.mode, .int .i64 x.cmd.fl, .int .i64 x.cmd.si, .slice a2 n2 c2, .int .i64 x.acc.valid, .slice a3 x.acc.boxes.length c3, .slice a4 x.acc.seen.length c4]) x ∧ RecV wr.drew (.agg #[.int .i64 x.kind, .int .i64 x.user, .int .i64 x.n, .int .i64 x.cmd.k, .slice b0 m0 e0, .slice b1 m1 e1, .int .i64 x.cmd.uid, .int .i64 x.cmd.mode, .int .i64 x.cmd.fl, .int .i64 x.cmd.si, .slice b2 m2 e2, .int .i64 x.acc.valid, .slice b3 x.acc.boxes.length e3, .slice b4 x.acc.seen.length e4]) x) := ⟨hRV.below DR, hRV2.below DR⟩
      clear hRV hRV2
      go_wp2
      go_region_held3 (fun w' => w'.cell? ⟨b, off + k * 14, none⟩ = some (.int .i64 x.kind) ∧ w'.cell? ⟨b, off + k * 14 + 1, none⟩ = some (.int .i64 x.user) ∧ w'.cell? ⟨b, off + k * 14 + 2, none⟩ = some (.int .i64 x.n) ∧ w'.cell? ⟨b, off + k * 14 + 3, none⟩ = some (.int .i64 x.cmd.k) ∧ w'.cell? ⟨b, off + k * 14 + 4, none⟩ = some (.slice a0 n0 c0) ∧ w'.cell? ⟨b, off + k * 14 + 5, none⟩ = some (.slice a1 n1 c1) ∧ w'.cell? ⟨b, off + k * 14 + 6, none⟩ = some (.int .i64 x.cmd.uid) ∧ w'.cell? ⟨b, off + k * 14 + 7, none⟩ = some (.int .i64 x.cmd.mode) ∧ w'.cell? ⟨b, off + k * 14 + 8, none⟩ = some (.int .i64 x.cmd.fl) ∧ w'.cell? ⟨b, off + k * 14 + 9, none⟩ = some (.int .i64 x.cmd.si) ∧ w'.cell? ⟨b, off + k * 14 + 10, none⟩ = some (.slice a2 n2 c2) ∧ w'.cell? ⟨b, off + k * 14 + 11, none⟩ = some (.int .i64 x.acc.valid) ∧ w'.cell? ⟨b, off + k * 14 + 12, none⟩ = some (.slice a3 x.acc.boxes.length c3) ∧ w'.cell? ⟨b, off + k * 14 + 13, none⟩ = some (.slice a4 x.acc.seen.length c4) ∧ w'.cell? ⟨bq, offq + k * 14, none⟩ = some (.int .i64 x.kind) ∧ w'.cell? ⟨bq, offq + k * 14 + 1, none⟩ = some (.int .i64 x.user) ∧ w'.cell? ⟨bq, offq + k * 14 + 2, none⟩ = some (.int .i64 x.n) ∧ w'.cell? ⟨bq, offq + k * 14 + 3, none⟩ = some (.int .i64 x.cmd.k) ∧ w'.cell? ⟨bq, offq + k * 14 + 4, none⟩ = some (.slice b0 m0 e0) ∧ w'.cell? ⟨bq, offq + k * 14 + 5, none⟩ = some (.slice b1 m1 e1) ∧ w'.cell? ⟨bq, offq + k * 14 + 6, none⟩ = some (.int .i64 x.cmd.uid) ∧ w'.cell? ⟨bq, offq + k * 14 + 7, none⟩ = some (.int .i64 x.cmd.mode) ∧ w'.cell? ⟨bq, offq + k * 14 + 8, none⟩ = some (.int .i64 x.cmd.fl) ∧ w'.cell? ⟨bq, offq + k * 14 + 9, none⟩ = some (.int .i64 x.cmd.si) ∧ w'.cell? ⟨bq, offq + k * 14 + 10, none⟩ = some (.slice b2 m2 e2) ∧ w'.cell? ⟨bq, offq + k * 14 + 11, none⟩ = some (.int .i64 x.acc.valid) ∧ w'.cell? ⟨bq, offq + k * 14 + 12, none⟩ = some (.slice b3 x.acc.boxes.length e3) ∧ w'.cell? ⟨bq, offq + k * 14 + 13, none⟩ = some (.slice b4 x.acc.seen.length e4))
        (first | go_keep | exact ⟨d0, d1, d2, d3, d4, d5, d6, d7, d8, d9, d10, d11, d12, d13, z0, z1, z2, z3, z4, z5, z6, z7, z8, z9, z10, z11, z12, z13⟩ | exact ⟨(B.cell (p := ⟨_, _, none⟩) (by exact hlb)).trans d0, (B.cell (p := ⟨_, _, none⟩) (by exact hlb)).trans d1, (B.cell (p := ⟨_, _, none⟩) (by exact hlb)).trans d2, (B.cell (p := ⟨_, _, none⟩) (by exact hlb)).trans d3, (B.cell (p := ⟨_, _, none⟩) (by exact hlb)).trans d4, (B.cell (p := ⟨_, _, none⟩) (by exact hlb)).trans d5, (B.cell (p := ⟨_, _, none⟩) (by exact hlb)).trans d6, (B.cell (p := ⟨_, _, none⟩) (by exact hlb)).trans d7, (B.cell (p := ⟨_, _, none⟩) (by exact hlb)).trans d8, (B.cell (p := ⟨_, _, none⟩) (by exact hlb)).trans d9, (B.cell (p := ⟨_, _, none⟩) (by exact hlb)).trans d10, (B.cell (p := ⟨_, _, none⟩) (by exact hlb)).trans d11, (B.cell (p := ⟨_, _, none⟩) (by exact hlb)).trans d12, (B.cell (p := ⟨_, _, none⟩) (by exact hlb)).trans d13, (B.cell (p := ⟨_, _, none⟩) (by exact hlb2)).trans z0, (B.cell (p := ⟨_, _, none⟩) (by exact hlb2)).trans z1, (B.cell (p := ⟨_, _, none⟩) (by exact hlb2)).trans z2, (B.cell (p := ⟨_, _, none⟩) (by exact hlb2)).trans z3, (B.cell (p := ⟨_, _, none⟩) (by exact hlb2)).trans z4, (B.cell (p := ⟨_, _, none⟩) (by exact hlb2)).trans z5, (B.cell (p := ⟨_, _, none⟩) (by exact hlb2)).trans z6, (B.cell (p := ⟨_, _, none⟩) (by exact hlb2)).trans z7, (B.cell (p := ⟨_, _, none⟩) (by exact hlb2)).trans z8, (B.cell (p := ⟨_, _, none⟩) (by exact hlb2)).trans z9, (B.cell (p := ⟨_, _, none⟩) (by exact hlb2)).trans z10, (B.cell (p := ⟨_, _, none⟩) (by exact hlb2)).trans z11, (B.cell (p := ⟨_, _, none⟩) (by exact hlb2)).trans z12, (B.cell (p := ⟨_, _, none⟩) (by exact hlb2)).trans z13⟩)
        ((go_at_call 24; refine (eqRecord_yes _ _ x _ HA.out.1 HA.out.2).mono ?_; rintro e w1 ⟨rfl, B⟩))
      have HB2 : Hid (Below w.heap.size w w1) := Below.step (Below.step hB.out DR) B
      clear d0 d1 d2 d3 d4 d5 d6 d7 d8 d9 d10 d11 d12 d13 z0 z1 z2 z3 z4 z5 z6 z7 z8 z9 z10 z11 z12 z13 B hB HA
      go_wp2
      go_roundw
      case rel => exact ⟨k + 1, by omega, by go_num, HB2⟩
      case measure => simp [intOf]; omega
    · go_wp2
      go_ret
      exact ⟨rfl, hB.out⟩

end Go.Proofs.YtdokgpdfdenoaaaGreat

/- One element of a list of the call's own is written anew. -/
namespace Go.Proofs.YtdokgpdfdenoaaaGreat
open Go.RowKit

/-- What is known of element i, and what gives the list back behind a write to it. -/
theorem Ow.upd {α : Type} {t : TypeId} {sz : Nat} {E : World → List Value → α → (Nat → Prop) → Prop} {w : World} {S : Nat → Prop} {v : Value} {l : List α} (hE : Frames E) (h : Ow t sz E w S v l) (i : Nat) (x : α) (hx : l[i]? = some x) :
    ∃ (g cap : Nat) (cur : Array Value) (c : List Value) (f : Nat → Prop), v = .slice (some ⟨g, 0, none⟩) l.length cap ∧ l.length ≤ cap ∧ cap ≤ maxLen ∧ w.heap[g]? = some (.cells cur t (0, 0)) ∧ i * sz + sz ≤ cur.size ∧ S g ∧ E w c x f ∧ c.length = sz ∧
      (∀ j u, c[j]? = some u → cur[i * sz + j]? = some u) ∧ (∀ b, f b → S b ∧ b ≠ g) ∧
      ∀ (w' : World) (cur' : Array Value) (c' : List Value) (x' : α), w'.heap[g]? = some (.cells cur' t (0, 0)) → cur'.size = cur.size → (∀ j u, c'[j]? = some u → cur'[i * sz + j]? = some u) → (∀ m, m < i * sz ∨ i * sz + sz ≤ m → cur'[m]? = cur[m]?) → c'.length = sz →
        (∀ b, S b → b ≠ g → ¬ f b → b < w.heap.size → w'.heap[b]? = w.heap[b]?) → E w' c' x' f → Ow t sz E w' S v (l.set i x') := by
  have hi : i < l.length := (List.getElem?_eq_some_iff.1 hx).1
  rcases h with ⟨-, rfl⟩ | ⟨g, cap, cur, cs, fs, hv, hh, h1, h2, h3, h4, h5, h6, h7⟩
  · simp at hi
  · obtain ⟨e1, e2, e3⟩ := h5 i x hx
    have hroom : i * sz + sz ≤ cur.size := by
      have := Nat.mul_le_mul_right sz (show i + 1 ≤ cap by omega)
      rw [Nat.add_mul, Nat.one_mul] at this
      omega
    refine ⟨g, cap, cur, cs i, fs i, hv, h1, h2, hh, hroom, h4, e1, e2, e3, fun b hb => h6 i b hi hb, ?_⟩
    intro w' cur' c' x' k1 k2 k3 k4 k5 k6 k7
    refine .inr ⟨g, cap, cur', fun n => if n = i then c' else cs n, fs, by rw [List.length_set]; exact hv, k1, by rw [List.length_set]; exact h1, h2, by omega, h4, fun n y hy => ?_, by rw [List.length_set]; exact h6, by rw [List.length_set]; exact h7⟩
    by_cases hni : n = i
    · subst hni
      rw [List.getElem?_set_self hi] at hy
      cases hy
      simp only [if_true]
      exact ⟨k7, k5, k3⟩
    · rw [List.getElem?_set_ne (fun e => hni e.symm)] at hy
      simp only [if_neg hni]
      have hn : n < l.length := (List.getElem?_eq_some_iff.1 hy).1
      obtain ⟨q1, q2, q3⟩ := h5 n y hy
      refine ⟨hE _ _ _ _ _ q1 fun b hb hlt => k6 b (h6 n b hn hb).1 (h6 n b hn hb).2 (fun hf => h7 n i b hn hi hni hb hf) hlt, q2, fun j u hu => ?_⟩
      have hj : j < sz := by have := (List.getElem?_eq_some_iff.1 hu).1; omega
      rw [k4]
      · exact q3 j u hu
      · rcases Nat.lt_or_gt_of_ne hni with hlt | hgt
        · have := Nat.mul_le_mul_right sz (show n + 1 ≤ i by omega)
          rw [Nat.add_mul, Nat.one_mul] at this
          exact .inl (by omega)
        · have := Nat.mul_le_mul_right sz (show i + 1 ≤ n by omega)
          rw [Nat.add_mul, Nat.one_mul] at this
          exact .inr (by omega)

end Go.Proofs.YtdokgpdfdenoaaaGreat

/- Rows of rows ([][]byte): what one reads as, one of the call's own, its rows apart from each other. -/
namespace Go.Proofs.YtdokgpdfdenoaaaGreat
open Go.RowKit

/-- The sum of the first sizes. -/
def pre (m : Nat → Nat) : Nat → Nat
  | 0 => 0
  | j + 1 => pre m j + m j
theorem pre_mono (m : Nat → Nat) {i j : Nat} (h : i ≤ j) : pre m i ≤ pre m j := by
  induction j with
  | zero => simp at h; subst h; exact Nat.le_refl _
  | succ j ih =>
    by_cases hj : i = j + 1
    · subst hj; exact Nat.le_refl _
    · have := ih (by omega); simp only [pre]; omega
theorem pre_congr {m m' : Nat → Nat} {n : Nat} (h : ∀ i, i < n → m i = m' i) : pre m n = pre m' n := by
  induction n with
  | zero => rfl
  | succ n ih => simp only [pre]; rw [ih (fun i hi => h i (by omega)), h n (by omega)]

/-- The slice value v reads as n rows of bytes: the i-th is f i. -/
def SsF (w : World) (v : Value) (n : Nat) (f : Nat → List Int) : Prop :=
  ∃ a cap, ∃ us : Nat → Value, v = .slice a n cap ∧ n ≤ cap ∧ cap ≤ maxLen ∧
    (0 < n → ∃ b off, a = some ⟨b, off, none⟩ ∧ b < w.heap.size ∧ ∀ i, i < n → w.cell? ⟨b, off + i, none⟩ = some (us i)) ∧ ∀ i, i < n → Bs w (us i) (f i)

theorem SsF.below {w w' : World} {v : Value} {n : Nat} {f : Nat → List Int} (h : SsF w v n f) (hb : Below w.heap.size w w') : SsF w' v n f := by
  obtain ⟨a, cap, us, hv, h1, h2, h3, h4⟩ := h
  refine ⟨a, cap, us, hv, h1, h2, fun hp => ?_, fun i hi => (h4 i hi).below hb⟩
  obtain ⟨b, off, ha, hlt, hc⟩ := h3 hp
  exact ⟨b, off, ha, Nat.lt_of_lt_of_le hlt hb.size, fun i hi => (hb.cell (p := ⟨b, off + i, none⟩) hlt).trans (hc i hi)⟩
theorem SsF.form3 {w : World} {v : Value} {n : Nat} {f : Nat → List Int} (h : SsF w v n f) : ∃ a m cap, v = .slice a m cap := by obtain ⟨a, cap, _, h, _⟩ := h; exact ⟨a, _, cap, h⟩
theorem SsF.congr {w : World} {v : Value} {n : Nat} {f g : Nat → List Int} (h : SsF w v n f) (e : ∀ i, i < n → f i = g i) : SsF w v n g := by
  obtain ⟨a, cap, us, hv, h1, h2, h3, h4⟩ := h
  exact ⟨a, cap, us, hv, h1, h2, h3, fun i hi => by rw [← e i hi]; exact h4 i hi⟩

/-- The row of rows v with the slices us is the call's own, in blocks from B on and below T, no two in one; the i-th row's bytes are f i. -/
structure RowF (w : World) (B T : Nat) (v : Value) (us : List Value) (f : Nat → List Int) : Prop where
  row : w.ownsRow B 37 1 v us.length us
  top : ∀ g, v.ownBlock = some g → g < T
  rows : ∀ (i : Nat) (u : Value), us[i]? = some u → Row w B T u (f i)
  distinct : ∀ (i j : Nat) (u u' : Value) (g : Nat), us[i]? = some u → us[j]? = some u' → u.ownBlock = some g → u'.ownBlock = some g → i = j

/-- The rows of a list. -/
def RowS (w : World) (B T : Nat) (v : Value) (ls : List (List Int)) : Prop := ∃ us : List Value, us.length = ls.length ∧ RowF w B T v us (fun i => ls.getD i [])

theorem Row.heap {w : World} {B T g : Nat} {v : Value} {l : List Int} (h : Row w B T v l) (hg : v.ownBlock = some g) : ∃ cur, w.heap[g]? = some (.cells cur 5 (0, 0)) := by
  rcases h.2.1.2 with ⟨hn, _⟩ | ⟨k, cap, cur, hv, _, hh, _⟩
  · rw [hn] at hg; simp [Value.ownBlock] at hg
  · rw [hv] at hg; simp [Value.ownBlock] at hg; subst hg; exact ⟨cur, hh⟩
theorem ownsRow_heap {w : World} {B g n : Nat} {e : TypeId} {v : Value} {xs : List Value} (h : w.ownsRow B e 1 v n xs) (hg : v.ownBlock = some g) : ∃ cur, w.heap[g]? = some (.cells cur e (0, 0)) := by
  rcases h.2 with ⟨hn, _⟩ | ⟨k, cap, cur, hv, _, hh, _⟩
  · rw [hn] at hg; simp [Value.ownBlock] at hg
  · rw [hv] at hg; simp [Value.ownBlock] at hg; subst hg; exact ⟨cur, hh⟩
/-- A row of bytes and a row of slices never lie in one block. -/
theorem apart_types {w : World} {B B' T n : Nat} {v u : Value} {xs : List Value} {l : List Int} (h : w.ownsRow B 37 1 v n xs) (hu : Row w B' T u l) : u.ownBlock = none ∨ u.ownBlock ≠ v.ownBlock := by
  cases hg : u.ownBlock with
  | none => exact .inl rfl
  | some g =>
    refine .inr fun e => ?_
    obtain ⟨c1, h1⟩ := ownsRow_heap h e.symm
    obtain ⟨c2, h2⟩ := hu.heap hg
    rw [h1] at h2
    simp at h2

theorem ownsRow_below {w w' : World} {B n : Nat} {e : TypeId} {v : Value} {xs : List Value} (h : w.ownsRow B e 1 v n xs) (hb : Below w.heap.size w w') : w'.ownsRow B e 1 v n xs := by
  refine ⟨h.1, ?_⟩
  rcases h.2 with hn | ⟨g, cap, cur, hv, hg, hh, r⟩
  · exact .inl hn
  · exact .inr ⟨g, cap, cur, hv, hg, (hb.block g (lt_of_heap hh)).trans hh, r⟩
theorem ownsRow_keptW {w w' : World} {B T B' T' n : Nat} {e : TypeId} {v : Value} {xs : List Value} (h : w.ownsRow B e 1 v n xs) (ht : ∀ g, v.ownBlock = some g → g < T) (hw : Within B' T' w w') (hd : T ≤ B' ∨ T' ≤ B) : w'.ownsRow B e 1 v n xs := by
  refine ⟨h.1, ?_⟩
  rcases h.2 with hn | ⟨g, cap, cur, hv, hg, hh, r⟩
  · exact .inl hn
  · have hlt : g < T := ht g (by rw [hv]; rfl)
    exact .inr ⟨g, cap, cur, hv, hg, (hw.block g (lt_of_heap hh) (by omega)).trans hh, r⟩
theorem ownsRow_wide {w : World} {B B' n : Nat} {e : TypeId} {v : Value} {xs : List Value} (h : w.ownsRow B e 1 v n xs) (hB : B' ≤ B) : w.ownsRow B' e 1 v n xs := by
  refine ⟨h.1, ?_⟩
  rcases h.2 with hn | ⟨g, cap, cur, hv, hg, r⟩
  · exact .inl hn
  · exact .inr ⟨g, cap, cur, hv, Nat.le_trans hB hg, r⟩

theorem RowF.below {w w' : World} {B T : Nat} {v : Value} {us : List Value} {f : Nat → List Int} (h : RowF w B T v us f) (hb : Below w.heap.size w w') : RowF w' B T v us f :=
  ⟨ownsRow_below h.row hb, h.top, fun i u hu => (h.rows i u hu).below hb, h.distinct⟩
theorem RowF.keptW {w w' : World} {B T B' T' : Nat} {v : Value} {us : List Value} {f : Nat → List Int} (h : RowF w B T v us f) (hw : Within B' T' w w') (hd : T ≤ B' ∨ T' ≤ B) : RowF w' B T v us f :=
  ⟨ownsRow_keptW h.row h.top hw hd, h.top, fun i u hu => (h.rows i u hu).keptW hw hd, h.distinct⟩
theorem RowF.wide {w : World} {B T B' T' : Nat} {v : Value} {us : List Value} {f : Nat → List Int} (h : RowF w B T v us f) (hB : B' ≤ B) (hT : T ≤ T') : RowF w B' T' v us f :=
  ⟨ownsRow_wide h.row hB, fun g hg => Nat.lt_of_lt_of_le (h.top g hg) hT, fun i u hu => (h.rows i u hu).wide hB hT, h.distinct⟩
theorem RowF.congr {w : World} {B T : Nat} {v : Value} {us : List Value} {f g : Nat → List Int} (h : RowF w B T v us f) (e : ∀ i, i < us.length → f i = g i) : RowF w B T v us g :=
  ⟨h.row, h.top, fun i u hu => by rw [← e i (List.getElem?_eq_some_iff.1 hu).1]; exact h.rows i u hu, h.distinct⟩
theorem RowF.nil (w : World) (B T : Nat) (f : Nat → List Int) : RowF w B T (.slice none 0 0) [] f :=
  ⟨World.ownsRow_nil _ _ _ _, fun g hg => by simp [Value.ownBlock] at hg, fun i u hu => by simp at hu, fun i j u u' g hu => by simp at hu⟩
/-- One of the rows was written. -/
theorem RowF.wrote {w w' : World} {B T i : Nat} {v u : Value} {us : List Value} {f : Nat → List Int} {l : List Int} (h : RowF w B T v us f) (hu : us[i]? = some u) (hg : w.grownBy w' u.ownBlock) (hr : Row w' B T u l) : RowF w' B T v us (fun j => if j = i then l else f j) := by
  have hri := h.rows i u hu
  refine ⟨h.row.kept hg ?_, h.top, fun j u' hu' => ?_, h.distinct⟩
  · cases hv : v.ownBlock with
    | none => exact .inl rfl
    | some g =>
      refine .inr fun e => ?_
      rcases apart_types h.row hri with h1 | h1
      · rw [h1] at e; simp at e
      · exact h1 (by rw [hv]; exact e.symm)
  · by_cases hj : j = i
    · subst hj
      rw [hu] at hu'
      cases hu'
      simpa using hr
    · simp only [if_neg hj]
      have hrj := h.rows j u' hu'
      refine ⟨hrj.1, hrj.2.1.kept hg ?_, hrj.2.2⟩
      cases hv : u'.ownBlock with
      | none => exact .inl rfl
      | some g => exact .inr fun e => hj (h.distinct j i u' u g hu' hu hv e.symm)
/-- What was written lies within the rows' blocks. -/
theorem RowF.within {w w' : World} {B T i : Nat} {v u : Value} {us : List Value} {f : Nat → List Int} (h : RowF w B T v us f) (hu : us[i]? = some u) (hg : w.grownBy w' u.ownBlock) : Within B T w w' := (h.rows i u hu).within hg

theorem RowF.ss {w : World} {B T : Nat} {v : Value} {us : List Value} {f : Nat → List Int} (h : RowF w B T v us f) : SsF w v us.length f := by
  rcases h.row.2 with ⟨hn, hz⟩ | ⟨g, cap, cur, hv, hg, hh, h1, h2, h3, h4⟩
  · have : us = [] := List.eq_nil_of_length_eq_zero hz
    subst this
    exact ⟨none, 0, fun _ => .slice none 0 0, hn, by simp, by simp, fun hp => by simp at hp, fun i hi => by simp at hi⟩
  · refine ⟨_, cap, fun i => us.getD i (.slice none 0 0), hv, h1, h2, fun hp => ⟨g, 0, rfl, lt_of_heap hh, fun i hi => ?_⟩, fun i hi => ?_⟩
    · rw [Nat.zero_add, cell_of_row w g i cur 37 (0, 0) hh]
      rw [Nat.mul_one] at h4
      have e : us[i]? = some (us.getD i (.slice none 0 0)) := by simp [hi]
      rw [← h4, List.getElem?_take, if_pos hi] at e
      rw [h4] at e
      simpa using e
    · have e : us[i]? = some (us.getD i (.slice none 0 0)) := by simp [hi]
      exact (h.rows i _ e).bs

/-- One more row was appended: the slices' row has grown, a new row stands behind. -/
theorem RowF.snoc {w w' : World} {B T T' : Nat} {v v' u : Value} {us : List Value} {f : Nat → List Int} {l : List Int} (h : RowF w B T v us f) (hu : Row w T T' u l) (hT : T ≤ T') (hB : B ≤ T) (hr : w'.ownsRow B 37 1 v' (us.length + 1) (us ++ [u])) (hg : w.grownBy w' v.ownBlock) :
    RowF w' B (max T' w'.heap.size) v' (us ++ [u]) (fun j => if j = us.length then l else f j) := by
  have keep : ∀ {x : Value} {k : List Int} {B0 T0 : Nat}, Row w B0 T0 x k → Row w' B0 T0 x k := fun {x} {k} {B0} {T0} hx => by
    refine ⟨hx.1, hx.2.1.kept hg ?_, hx.2.2⟩
    exact apart_types h.row hx
  refine ⟨by simpa using hr, fun g hg' => Nat.lt_of_lt_of_le (hr.lt g hg').2 (Nat.le_max_right _ _), fun i x hx => ?_, fun i j x x' g hx hx' hgx hgx' => ?_⟩
  · by_cases hi : i < us.length
    · rw [List.getElem?_append_left hi] at hx
      simp only [if_neg (show ¬ i = us.length by omega)]
      exact (keep (h.rows i x hx)).wide (Nat.le_refl _) (Nat.le_trans hT (Nat.le_max_left _ _))
    · rw [List.getElem?_append_right (by omega)] at hx
      have h0 : i - us.length = 0 := by
        by_cases h0 : i - us.length = 0
        · exact h0
        · rw [List.getElem?_eq_none (by simp; omega)] at hx; simp at hx
      have hi' : i = us.length := by omega
      rw [h0] at hx
      simp at hx
      subst hx
      simp only [if_pos hi']
      exact (keep hu).wide hB (Nat.le_max_left _ _)
  · have last : ∀ {i : Nat} {x : Value}, (us ++ [u])[i]? = some x → (i < us.length ∧ us[i]? = some x) ∨ (i = us.length ∧ x = u) := fun {i} {x} hx => by
      by_cases hi : i < us.length
      · rw [List.getElem?_append_left hi] at hx; exact .inl ⟨hi, hx⟩
      · rw [List.getElem?_append_right (by omega)] at hx
        by_cases h0 : i - us.length = 0
        · rw [h0] at hx; simp at hx; exact .inr ⟨by omega, hx.symm⟩
        · rw [List.getElem?_eq_none (by simp; omega)] at hx; simp at hx
    rcases last hx with ⟨hi, hy⟩ | ⟨hi, hy⟩ <;> rcases last hx' with ⟨hj, hy'⟩ | ⟨hj, hy'⟩
    · exact h.distinct i j x x' g hy hy' hgx hgx'
    · have h1 := (h.rows i x hy).2.2 g hgx
      rw [hy'] at hgx'
      have h2 := (hu.2.1.lt g hgx').1
      omega
    · have h1 := (h.rows j x' hy').2.2 g hgx'
      rw [hy] at hgx
      have h2 := (hu.2.1.lt g hgx).1
      omega
    · omega

theorem RowS.below {w w' : World} {B T : Nat} {v : Value} {ls : List (List Int)} (h : RowS w B T v ls) (hb : Below w.heap.size w w') : RowS w' B T v ls := let ⟨us, e, h⟩ := h; ⟨us, e, h.below hb⟩
theorem RowS.keptW {w w' : World} {B T B' T' : Nat} {v : Value} {ls : List (List Int)} (h : RowS w B T v ls) (hw : Within B' T' w w') (hd : T ≤ B' ∨ T' ≤ B) : RowS w' B T v ls := let ⟨us, e, h⟩ := h; ⟨us, e, h.keptW hw hd⟩
theorem RowS.wide {w : World} {B T B' T' : Nat} {v : Value} {ls : List (List Int)} (h : RowS w B T v ls) (hB : B' ≤ B) (hT : T ≤ T') : RowS w B' T' v ls := let ⟨us, e, h⟩ := h; ⟨us, e, h.wide hB hT⟩
theorem RowS.nil (w : World) (B T : Nat) : RowS w B T (.slice none 0 0) [] := ⟨[], rfl, RowF.nil _ _ _ _⟩
theorem RowS.ss {w : World} {B T : Nat} {v : Value} {ls : List (List Int)} (h : RowS w B T v ls) : SsF w v ls.length (fun i => ls.getD i []) := by
  obtain ⟨us, e, h⟩ := h; rw [← e]; exact h.ss
theorem RowS.snoc {w w' : World} {B T T' : Nat} {v v' u : Value} {us : List Value} {ls : List (List Int)} {l : List Int} (he : us.length = ls.length) (h : RowF w B T v us (fun i => ls.getD i [])) (hu : Row w T T' u l) (hT : T ≤ T') (hB : B ≤ T) (hr : w'.ownsRow B 37 1 v' (us.length + 1) (us ++ [u])) (hg : w.grownBy w' v.ownBlock) (hm : T' ≤ w'.heap.size) :
    RowS w' B w'.heap.size v' (ls ++ [l]) := by
  have h2 := h.snoc hu hT hB hr hg
  rw [Nat.max_eq_right hm] at h2
  refine ⟨us ++ [u], by simp [he], h2.congr fun i hi => ?_⟩
  simp only [List.length_append, List.length_singleton] at hi
  by_cases h1 : i = us.length
  · subst h1; simp [he]
  · simp only [if_neg h1]
    have : i < ls.length := by omega
    simp [List.getElem?_append_left this]

end Go.Proofs.YtdokgpdfdenoaaaGreat

/- What is written into data of the call's own: the world apart from it, and the data as they are then. -/
namespace Go.Proofs.YtdokgpdfdenoaaaGreat
open Go.RowKit

/-- Apart from the blocks of S the world w' has all that w had. -/
structure Wr (S : Nat → Prop) (w w' : World) : Prop where
  os : w'.os = w.os
  tape : w'.tape = w.tape
  output : w'.output = w.output
  size : w.heap.size ≤ w'.heap.size
  block : ∀ k, k < w.heap.size → ¬ S k → w'.heap[k]? = w.heap[k]?

theorem Wr.refl (S : Nat → Prop) (w : World) : Wr S w w := ⟨rfl, rfl, rfl, Nat.le_refl _, fun _ _ _ => rfl⟩
theorem Wr.trans {S : Nat → Prop} {a b c : World} (h : Wr S a b) (k : Wr S b c) : Wr S a c :=
  ⟨k.os.trans h.os, k.tape.trans h.tape, k.output.trans h.output, Nat.le_trans h.size k.size, fun i hi hn => (k.block i (Nat.lt_of_lt_of_le hi h.size) hn).trans (h.block i hi hn)⟩
theorem Wr.mono {S S' : Nat → Prop} {a b : World} (h : Wr S a b) (hS : ∀ x, S x → S' x) : Wr S' a b := ⟨h.os, h.tape, h.output, h.size, fun i hi hn => h.block i hi fun hs => hn (hS i hs)⟩
theorem Wr.within {B T : Nat} {a b : World} (h : Wr (In B T) a b) : Within B T a b := ⟨h.os, h.tape, h.output, h.size, fun i hi hn => h.block i hi hn⟩
theorem Wr.below {B : Nat} {S : Nat → Prop} {w0 a b : World} (h : Wr S a b) (h0 : Below B w0 a) (hS : ∀ x, S x → B ≤ x) (hB : B ≤ a.heap.size) : Below B w0 b :=
  ⟨h.os.trans h0.os, h.tape.trans h0.tape, h.output.trans h0.output, Nat.le_trans h0.size h.size, fun k hk => (h.block k (Nat.lt_of_lt_of_le hk hB) fun hs => by have := hS k hs; omega).trans (h0.block k hk)⟩
theorem Wr.of_below {S : Nat → Prop} {a b : World} (h : Below a.heap.size a b) : Wr S a b := ⟨h.os, h.tape, h.output, h.size, fun k hk _ => h.block k hk⟩
theorem Wr.put {S : Nat → Prop} {w : World} {g : Nat} (hg : S g) (o : Nat) (c : List Value) (t : TypeId) (cur : Array Value) (h : w.heap[g]? = some (.cells cur t (0, 0))) (hs : o + c.length ≤ cur.size) : Wr S w (put w g o c) := by
  obtain ⟨cur', _, _, _, _, hw⟩ := put_spec g t c w o cur h hs
  refine ⟨hw.os, hw.tape, hw.output, hw.size, fun k hk hn => hw.block k hk fun ⟨h1, h2⟩ => ?_⟩
  obtain rfl : k = g := by omega
  exact hn hg

theorem markByteS_o (S : Nat → Prop) (v : Value) (l : List Int) (k : Int) (w : World) (hv : RO w S v l) (hl : l.length ≤ 2000000) (hk0 : 0 ≤ k) (hk1 : k ≤ 1000000000000) :
    Calls Tryz.prog 25 #[v, .int .i64 k] w fun e w' => e = .returned (.int .i64 (k + l.length)) ∧ RO w' S v (marks k l.length) ∧ Wr S w w' := by
  refine (markByteS_r 0 w.heap.size v l k w ⟨hv.1, hv.2.1, fun g hg => (hv.2.1.lt g hg).2⟩ hl hk0 hk1).mono ?_
  rintro e w' ⟨rfl, r, hg⟩
  exact ⟨rfl, ⟨r.1, r.2.1, hv.2.2⟩, ⟨hg.os, hg.tape, hg.output, hg.size, fun b hb hn => hg.block b hb fun e => hn (hv.2.2 b e.symm)⟩⟩

/-- Lists, marked one element behind the other: each takes as many marks as it has places. -/
def wtAt {α : Type} (z : α) (wt : α → Nat) (l : List α) (i : Nat) : Nat := wt (l.getD i z)
def mks {α : Type} (z : α) (mk : α → Int → α) (wt : α → Nat) (k : Int) (l : List α) : List α := (List.range l.length).map fun i => mk (l.getD i z) (k + (pre (wtAt z wt l) i : Nat))
section
variable {α : Type} {z : α} {mk : α → Int → α} {wt : α → Nat} {k : Int} {l : List α}
theorem length_mks : (mks z mk wt k l).length = l.length := by simp [mks]
theorem mks_get {i : Nat} {x : α} (h : l[i]? = some x) : (mks z mk wt k l)[i]? = some (mk x (k + (pre (wtAt z wt l) i : Nat))) := by
  have hi : i < l.length := (List.getElem?_eq_some_iff.1 h).1
  have hg : l.getD i z = x := by rw [List.getD_eq_getElem?_getD, h]; rfl
  simp only [mks, List.getElem?_map, List.getElem?_range hi, Option.map_some, hg]
theorem wtAt_get {i : Nat} {x : α} (h : l[i]? = some x) : wtAt z wt l i = wt x := by
  simp [wtAt, List.getD_eq_getElem?_getD, h]
theorem pre_step {i : Nat} {x : α} (h : l[i]? = some x) : pre (wtAt z wt l) (i + 1) = pre (wtAt z wt l) i + wt x := by
  show pre (wtAt z wt l) i + wtAt z wt l i = _
  rw [wtAt_get h]
theorem pre_le {i : Nat} (h : i ≤ l.length) : pre (wtAt z wt l) i ≤ pre (wtAt z wt l) l.length := pre_mono _ h
end
theorem pre_shift1 (m : Nat → Nat) (n : Nat) : pre m (n + 1) = m 0 + pre (fun i => m (i + 1)) n := by
  induction n with
  | zero => simp [pre]
  | succ n ih => rw [pre, ih]; simp only [pre]; omega
theorem wts_sum {α : Type} (z : α) (wt : α → Nat) (l : List α) : pre (wtAt z wt l) l.length = (l.map wt).sum := by
  induction l with
  | nil => rfl
  | cons x l ih =>
    rw [List.length_cons, pre_shift1]
    have : pre (fun i => wtAt z wt (x :: l) (i + 1)) l.length = pre (wtAt z wt l) l.length := pre_congr fun i _ => by simp [wtAt]
    rw [this, ih]
    simp [wtAt]
theorem sum_le {α : Type} (f g : α → Nat) (c : Nat) (l : List α) (h : ∀ x, x ∈ l → f x ≤ c * g x) : (l.map f).sum ≤ c * (l.map g).sum := by
  induction l with
  | nil => simp
  | cons x l ih =>
    have h1 := h x (by simp)
    have h2 := ih fun y hy => h y (by simp [hy])
    simp only [List.map_cons, List.sum_cons, Nat.mul_add]
    omega
theorem sum_mem {α : Type} (f : α → Nat) {l : List α} {x : α} (h : x ∈ l) : f x ≤ (l.map f).sum := by
  induction l with
  | nil => cases h
  | cons y l ih =>
    simp only [List.map_cons, List.sum_cons]
    rcases List.mem_cons.1 h with rfl | h
    · omega
    · have := ih h; omega

/-- The first i of a, the rest of b. -/
def mix {α : Type} (a b : List α) (i : Nat) : List α := a.take i ++ b.drop i
section
variable {α : Type} {a b : List α} {i : Nat}
theorem mix_zero : mix a b 0 = b := by simp [mix]
theorem mix_all (h : a.length = b.length) : mix a b b.length = a := by simp [mix, ← h]
theorem mix_length (h : a.length = b.length) (hi : i ≤ b.length) : (mix a b i).length = b.length := by simp [mix]; omega
theorem mix_get (h : a.length = b.length) (hi : i < b.length) : (mix a b i)[i]? = b[i]? := by
  have hl : (a.take i).length = i := by rw [List.length_take]; omega
  rw [mix, List.getElem?_append_right (by omega), hl]
  simp
theorem mix_set (h : a.length = b.length) {x : α} (hx : a[i]? = some x) : (mix a b i).set i x = mix a b (i + 1) := by
  have hi : i < a.length := (List.getElem?_eq_some_iff.1 hx).1
  have hv : a[i] = x := (List.getElem?_eq_some_iff.1 hx).2
  have hl : (a.take i).length = i := by rw [List.length_take]; omega
  rw [mix, List.set_append_right _ _ (by omega), hl, Nat.sub_self, mix, List.take_succ_eq_append_getElem hi, hv, List.append_assoc]
  congr 1
  rw [List.drop_eq_getElem_cons (show i < b.length by omega)]
  rfl
end

def zMail : MailD := ⟨0, 0, 0, []⟩
def zGone : GoneD := ⟨0, 0⟩
def zBox : BoxD := ⟨[], 0, 0, 0, [], [], 0⟩
def wtInt (_ : Int) : Nat := 1
def mkInt (_ : Int) (p : Int) : Int := p
def wtGone (_ : GoneD) : Nat := 2
def mkGone (_ : GoneD) (p : Int) : GoneD := ⟨p, p + 1⟩
def wtMail (m : MailD) : Nat := 3 + m.text.length
def mkMail (m : MailD) (p : Int) : MailD := ⟨p, p + 1, p + 2, marks (p + 3) m.text.length⟩
def wIs (l : List Int) : Nat := pre (wtAt 0 wtInt l) l.length
def wGs (l : List GoneD) : Nat := pre (wtAt zGone wtGone l) l.length
def wMs (l : List MailD) : Nat := pre (wtAt zMail wtMail l) l.length
def mkGones (k : Int) (l : List GoneD) : List GoneD := mks zGone mkGone wtGone k l
def mkMails (k : Int) (l : List MailD) : List MailD := mks zMail mkMail wtMail k l
def mkInts (k : Int) (l : List Int) : List Int := mks 0 mkInt wtInt k l
def wtBox (b : BoxD) : Nat := b.name.length + 3 + wMs b.mails + wGs b.gones + 1
def mkBox (b : BoxD) (p : Int) : BoxD :=
  ⟨marks p b.name.length, p + b.name.length, p + b.name.length + 1, p + b.name.length + 2, mkMails (p + b.name.length + 3) b.mails, mkGones (p + b.name.length + 3 + wMs b.mails) b.gones, p + b.name.length + 3 + wMs b.mails + wGs b.gones⟩
def wXs (l : List BoxD) : Nat := pre (wtAt zBox wtBox l) l.length
def mkBoxes (k : Int) (l : List BoxD) : List BoxD := mks zBox mkBox wtBox k l
theorem wIs_eq (l : List Int) : wIs l = l.length := by
  rw [wIs, wts_sum]
  induction l with
  | nil => rfl
  | cons x l ih => simp only [List.map_cons, List.sum_cons, ih, wtInt, List.length_cons]; omega
theorem wGs_eq (l : List GoneD) : wGs l = 2 * l.length := by
  rw [wGs, wts_sum]
  induction l with
  | nil => rfl
  | cons x l ih => simp only [List.map_cons, List.sum_cons, ih, wtGone, List.length_cons]; omega
theorem wMs_le (l : List MailD) : wMs l ≤ 3 * szM l := by
  rw [wMs, wts_sum, szM]
  exact sum_le _ _ 3 l fun x _ => by simp only [wtMail]; omega
theorem wtBox_le (b : BoxD) : wtBox b ≤ 4 * (szX b + 1) := by
  have h1 := wMs_le b.mails
  have h2 := wGs_eq b.gones
  simp only [wtBox, szX]
  omega
theorem wXs_le (l : List BoxD) : wXs l ≤ 4 * szXs l := by
  rw [wXs, wts_sum, szXs]
  exact sum_le _ _ 4 l fun x _ => wtBox_le x
theorem wMs_mem {l : List MailD} {m : MailD} (h : m ∈ l) : 3 + m.text.length ≤ wMs l := by
  rw [wMs, wts_sum]; exact sum_mem wtMail h
theorem wXs_mem {l : List BoxD} {b : BoxD} (h : b ∈ l) : wtBox b ≤ wXs l := by
  rw [wXs, wts_sum]; exact sum_mem wtBox h

end Go.Proofs.YtdokgpdfdenoaaaGreat

/- One element of a list of the call's own while it is written, cell by cell and through its slices. -/
namespace Go.Proofs.YtdokgpdfdenoaaaGreat
open Go.RowKit

/-- The cells cs stand in block g from o on, in a block that was cur; apart from it and from the blocks f the world is as wr. -/
structure At (wr : World) (f : Nat → Prop) (g : Nat) (t : TypeId) (cur : Array Value) (o : Nat) (cs : List Value) (wc : World) : Prop where
  blk : ∃ cur', wc.heap[g]? = some (.cells cur' t (0, 0)) ∧ cur'.size = cur.size ∧ (∀ j u, cs[j]? = some u → cur'[o + j]? = some u) ∧ (∀ m, m < o ∨ o + cs.length ≤ m → cur'[m]? = cur[m]?)
  wrote : Wr (fun b => b = g ∨ f b) wr wc
section
variable {wr wc wc' : World} {f S0 : Nat → Prop} {g : Nat} {t : TypeId} {cur : Array Value} {o : Nat} {cs : List Value}
theorem At.start (hh : wr.heap[g]? = some (.cells cur t (0, 0))) (hcs : ∀ j u, cs[j]? = some u → cur[o + j]? = some u) : At wr f g t cur o cs wr :=
  ⟨⟨cur, hh, rfl, hcs, fun _ _ => rfl⟩, Wr.refl _ _⟩
theorem At.cell (h : At wr f g t cur o cs wc) (j : Nat) (u : Value) (hu : cs[j]? = some u) : wc.cell? ⟨g, o + j, none⟩ = some u := by
  obtain ⟨cur', h1, -, h3, -⟩ := h.blk
  rw [cell_of_row wc g _ cur' t (0, 0) h1]
  exact h3 j u hu
theorem At.frozen (h : At wr f g t cur o cs wc) (i : Nat) : wc.frozen? ⟨g, i, none⟩ = false := let ⟨cur', h1, _⟩ := h.blk; frozen_of_row wc g i cur' t h1
theorem At.lt (h : At wr f g t cur o cs wc) : g < wc.heap.size := let ⟨_, h1, _⟩ := h.blk; lt_of_heap h1
theorem At.set (h : At wr f g t cur o cs wc) (i : Nat) (v : Value) (hi : i < cs.length) (hr : o + cs.length ≤ cur.size) : At wr f g t cur o (cs.set i v) (wc.setCell ⟨g, o + i, none⟩ v) := by
  obtain ⟨cur', h1, h2, h3, h4⟩ := h.blk
  refine ⟨⟨_, heap_setCell_same wc g (o + i) cur' t v h1, by simpa using h2, fun j u hu => ?_, fun m hm => ?_⟩, h.wrote.trans ⟨rfl, rfl, rfl, by simp [World.setCell], fun b hb hn => Below.heap_setCell wc ⟨g, o + i, none⟩ v b fun e => hn (.inl e)⟩⟩
  · rw [Array.getElem?_setIfInBounds]
    by_cases hij : i = j
    · subst hij
      rw [List.getElem?_set_self hi] at hu
      cases hu
      rw [if_pos rfl, if_pos (by omega)]
    · rw [List.getElem?_set_ne hij] at hu
      rw [if_neg (by omega)]
      exact h3 j u hu
  · rw [List.length_set] at hm
    rw [Array.getElem?_setIfInBounds, if_neg (by omega)]
    exact h4 m hm
theorem At.mark (h : At wr f g t cur o cs wc) (hW : Wr S0 wc wc') (hS : ∀ b, S0 b → f b ∧ b ≠ g) : At wr f g t cur o cs wc' := by
  obtain ⟨cur', h1, h2, h3, h4⟩ := h.blk
  exact ⟨⟨cur', (hW.block g (lt_of_heap h1) fun hs => (hS g hs).2 rfl).trans h1, h2, h3, h4⟩, h.wrote.trans (hW.mono fun b hb => .inr (hS b hb).1)⟩
/-- What lies elsewhere stays while a cell is set. -/
theorem set_far {w : World} {g i : Nat} {v : Value} {S : Nat → Prop} (hS : ∀ b, S b → b ≠ g) : ∀ b, S b → b < w.heap.size → (w.setCell ⟨g, i, none⟩ v).heap[b]? = w.heap[b]? := fun b hb _ => Below.heap_setCell w ⟨g, i, none⟩ v b (hS b hb)
end

end Go.Proofs.YtdokgpdfdenoaaaGreat

/- What markGoneS of package laws does. -/
namespace Go.Proofs.YtdokgpdfdenoaaaGreat
open Go.RowKit
set_option maxRecDepth 100000
set_option linter.unusedVariables false

/-- An element is written anew, cell by cell. -/
theorem Ow.put {α : Type} {t : TypeId} {sz : Nat} {E : World → List Value → α → (Nat → Prop) → Prop} {w : World} {S : Nat → Prop} {v : Value} {l : List α} (hE : Frames E) (h : Ow t sz E w S v l) (i : Nat) (x : α) (hx : l[i]? = some x) :
    ∃ (g cap : Nat) (c : List Value) (f : Nat → Prop), v = .slice (some ⟨g, 0, none⟩) l.length cap ∧ l.length ≤ cap ∧ cap ≤ maxLen ∧ g < w.heap.size ∧ S g ∧ E w c x f ∧ c.length = sz ∧ (∀ b, f b → S b ∧ b ≠ g) ∧
      (∀ j u, c[j]? = some u → w.cell? ⟨g, i * sz + j, none⟩ = some u) ∧ (∀ j, w.frozen? ⟨g, j, none⟩ = false) ∧ (∃ cur, w.heap[g]? = some (.cells cur t (0, 0)) ∧ i * sz + sz ≤ cur.size) ∧
      ∀ (c' : List Value) (x' : α), c'.length = sz → (∀ w', (∀ b, f b → b < w.heap.size → w'.heap[b]? = w.heap[b]?) → E w' c' x' f) → Ow t sz E (put w g (i * sz) c') S v (l.set i x') ∧ Wr S w (put w g (i * sz) c') := by
  obtain ⟨g, cap, cur, c, f, hv, h1, h2, hh, h3, h4, h5, h6, h7, h8, h9⟩ := h.upd hE i x hx
  refine ⟨g, cap, c, f, hv, h1, h2, lt_of_heap hh, h4, h5, h6, h8, fun j u hu => ?_, fun j => frozen_of_row w g j cur t hh, ⟨cur, hh, h3⟩, fun c' x' hc he => ?_⟩
  · rw [cell_of_row w g _ cur t (0, 0) hh]
    exact h7 j u hu
  · obtain ⟨cur', e1, e2, e3, e4, e5⟩ := put_spec g t c' w (i * sz) cur hh (by omega)
    refine ⟨h9 _ cur' c' x' e1 e2 e3 (fun m hm => e4 m (by omega)) hc (fun b hb hne _ hlt => e5.block b hlt (by omega)) (he _ fun b hb hlt => e5.block b hlt (by have := (h8 b hb).2; omega)), Wr.put h4 _ _ t cur hh (by omega)⟩

set_option maxHeartbeats 1000000 in
theorem markGoneS_o (S : Nat → Prop) (v : Value) (l : List GoneD) (k : Int) (w : World) (hv : GonesO w S v l) (hl : l.length ≤ 2000000) (hk0 : 0 ≤ k) (hk1 : k ≤ 100000000000) :
    Calls Tryz.prog 50 #[v, .int .i64 k] w fun e w' => e = .returned (.int .i64 (k + wGs l)) ∧ GonesO w' S v (mkGones k l) ∧ Wr S w w' := by
  have HV : Hid (GonesO w S v l) := hv
  obtain ⟨a, cap, rfl, hlc, hcm⟩ := (hv.rd fun _ _ _ _ h => h : GonesV w v l).form
  clear hv
  have hw := wGs_eq l
  have hlen : (mkGones k l).length = l.length := length_mks
  go_enter Tryz.func50, Tryz.ntmps50
  go_wp2
  go_loopw [1, 5] (fun q i wr => ∃ j : Nat, j ≤ l.length ∧ i = .int .i64 j ∧ q = .int .i64 (k + (pre (wtAt zGone wtGone l) j : Nat)) ∧ Hid (GonesO wr S (.slice a l.length cap) (mix (mkGones k l) l j)) ∧ Hid (Wr S w wr)) (fun _ i _ => l.length - (intOf i).toNat)
  case atStart => exact ⟨0, Nat.zero_le _, rfl, by simp [pre], by rw [mix_zero]; exact HV, Wr.refl _ _⟩
  case round =>
    obtain ⟨j, hj, rfl, rfl, hO, hW⟩ := hrel
    by_cases hlt : j < l.length
    · obtain ⟨x, hx⟩ : ∃ x, l[j]? = some x := ⟨l[j], List.getElem?_eq_getElem hlt⟩
      obtain ⟨g, cap', c, f, hv', -, -, hgl, hS, ⟨rfl, -, -⟩, -, -, hc, fz, -, hput⟩ := hO.out.put framesGone j x ((mix_get hlen hlt).trans hx)
      simp only [Value.slice.injEq] at hv'
      obtain ⟨rfl, -, rfl⟩ := hv'
      have hpj : pre (wtAt zGone wtGone l) j ≤ wGs l := pre_le (Nat.le_of_lt hlt)
      have hp1 : pre (wtAt zGone wtGone l) (j + 1) = pre (wtAt zGone wtGone l) j + 2 := pre_step hx
      have hn := mks_get (z := zGone) (mk := mkGone) (wt := wtGone) (k := k) hx
      generalize pre (wtAt zGone wtGone l) j = P at hpj hp1 hn
      have hP : (P : Int) ≤ 4000000 := by omega
      have d0 := hc 0 _ rfl
      have d1 := hc 1 _ rfl
      simp only [Nat.add_zero] at d0
      have HS : Hid (GonesO (put wr g (j * 2) [.int .i64 (k + P), .int .i64 (k + P + 1)]) S (.slice (some ⟨g, 0, none⟩) l.length cap) (mix (mkGones k l) l (j + 1)) ∧ Wr S w (put wr g (j * 2) [.int .i64 (k + P), .int .i64 (k + P + 1)])) := by
        obtain ⟨h1, h2⟩ := hput [.int .i64 (k + P), .int .i64 (k + P + 1)] (mkGone x (k + P)) rfl (fun w' _ => ⟨rfl, by constructor <;> simp only [mkGone] <;> omega, by constructor <;> simp only [mkGone] <;> omega⟩)
        rw [mix_set hlen hn] at h1
        exact ⟨h1, hW.out.trans h2⟩
      clear hput hc hn hO hW hx hw
      go_wp2
      go_roundw
      case rel => exact ⟨j + 1, by omega, by go_num, by rw [hp1]; go_num, HS.out.1, HS.out.2⟩
      case measure => simp [intOf]; omega
    · go_wp2
      go_ret
      obtain rfl : j = l.length := by omega
      exact ⟨rfl, by rw [← mix_all hlen]; exact hO.out, hW.out⟩

end Go.Proofs.YtdokgpdfdenoaaaGreat

/- What markMailS of package laws does. -/
namespace Go.Proofs.YtdokgpdfdenoaaaGreat
open Go.RowKit
set_option maxRecDepth 100000
set_option linter.unusedVariables false

set_option maxHeartbeats 1000000 in
theorem markMailS_o (S : Nat → Prop) (v : Value) (l : List MailD) (k : Int) (w : World) (hv : MailsO w S v l) (hs : szM l ≤ 2000000) (hk0 : 0 ≤ k) (hk1 : k ≤ 100000000000) :
    Calls Tryz.prog 49 #[v, .int .i64 k] w fun e w' => e = .returned (.int .i64 (k + wMs l)) ∧ MailsO w' S v (mkMails k l) ∧ Wr S w w' := by
  have HV : Hid (MailsO w S v l) := hv
  obtain ⟨a, cap, rfl, hlc, hcm⟩ := (hv.rd fun _ _ _ _ => MailE.rd : MailsV w v l).form
  clear hv
  have hl : l.length ≤ 2000000 := Nat.le_trans (szM_len l) hs
  have hb : wMs l ≤ 6000000 := by have := wMs_le l; omega
  have hlen : (mkMails k l).length = l.length := length_mks
  go_enter Tryz.func49, Tryz.ntmps49
  go_wp2
  go_loopw [1, 5] (fun q i wr => ∃ j : Nat, j ≤ l.length ∧ i = .int .i64 j ∧ q = .int .i64 (k + (pre (wtAt zMail wtMail l) j : Nat)) ∧ Hid (MailsO wr S (.slice a l.length cap) (mix (mkMails k l) l j)) ∧ Hid (Wr S w wr)) (fun _ i _ => l.length - (intOf i).toNat)
  case atStart => exact ⟨0, Nat.zero_le _, rfl, by simp [pre], by rw [mix_zero]; exact HV, Wr.refl _ _⟩
  case round =>
    obtain ⟨j, hj, rfl, rfl, hO, hW⟩ := hrel
    by_cases hlt : j < l.length
    · obtain ⟨x, hx⟩ : ∃ x, l[j]? = some x := ⟨l[j], List.getElem?_eq_getElem hlt⟩
      obtain ⟨g, cap', cur, c, f, hv', -, -, hh, hroom, hS, ⟨u, rfl, hu, -, -, -⟩, -, hcs, hf, hupd⟩ := hO.out.upd framesMail j x ((mix_get hlen hlt).trans hx)
      simp only [Value.slice.injEq] at hv'
      obtain ⟨rfl, -, rfl⟩ := hv'
      have hp1 : pre (wtAt zMail wtMail l) (j + 1) = pre (wtAt zMail wtMail l) j + (3 + x.text.length) := pre_step hx
      have hpj : pre (wtAt zMail wtMail l) (j + 1) ≤ wMs l := pre_le hlt
      have hn := mks_get (z := zMail) (mk := mkMail) (wt := wtMail) (k := k) hx
      generalize pre (wtAt zMail wtMail l) j = P at hpj hp1 hn
      have hP : (P : Int) ≤ 6000000 := by omega
      have hxt : x.text.length ≤ 2000000 := by have := szM_mem (List.mem_of_getElem? hx); omega
      have d0 := (cell_of_row wr g (j * 4) cur _ (0, 0) hh).trans (hcs 0 _ rfl)
      have d1 := (cell_of_row wr g (j * 4 + 1) cur _ (0, 0) hh).trans (hcs 1 _ rfl)
      have d2 := (cell_of_row wr g (j * 4 + 2) cur _ (0, 0) hh).trans (hcs 2 _ rfl)
      have fz : ∀ i, wr.frozen? ⟨g, i, none⟩ = false := fun i => frozen_of_row wr g i cur _ hh
      have hgl := lt_of_heap hh
      obtain ⟨ua, un, uc, rfl⟩ := hu.bs.form3
      obtain ⟨cur1, e1, e2, e3, e4, e5⟩ := put_spec g _ [.int .i64 (k + P), .int .i64 (k + P + 1), .int .i64 (k + P + 1 + 1)] wr (j * 4) cur hh (by simp; omega)
      have d3 : (((wr.setCell ⟨g, j * 4, none⟩ (.int .i64 (k + P))).setCell ⟨g, j * 4 + 1, none⟩ (.int .i64 (k + P + 1))).setCell ⟨g, j * 4 + 2, none⟩ (.int .i64 (k + P + 1 + 1))).cell? ⟨g, j * 4 + 3, none⟩ = some (.slice ua un uc) := (cell_of_row _ g (j * 4 + 3) cur1 _ (0, 0) e1).trans ((e4 (j * 4 + 3) (.inr (by simp))).trans (hcs 3 _ rfl))
      have HU : Hid (RO (put wr g (j * 4) [.int .i64 (k + P), .int .i64 (k + P + 1), .int .i64 (k + P + 1 + 1)]) f (.slice ua un uc) x.text) := hu.frame fun b hb hlt => e5.block b hlt (by have := (hf b hb).2; omega)
      have HS : Hid (∀ w', Wr f (put wr g (j * 4) [.int .i64 (k + P), .int .i64 (k + P + 1), .int .i64 (k + P + 1 + 1)]) w' → RO w' f (.slice ua un uc) (marks (k + P + 1 + 1 + 1) x.text.length) → MailsO w' S (.slice (some ⟨g, 0, none⟩) l.length cap) (mix (mkMails k l) l (j + 1)) ∧ Wr S w w') := by
        intro w' hw' hr
        have hsz := e5.size
        have hg' : w'.heap[g]? = _ := (hw'.block g (by omega) fun h => (hf g h).2 rfl).trans e1
        have hE : MailE w' [.int .i64 (k + P), .int .i64 (k + P + 1), .int .i64 (k + P + 1 + 1), .slice ua un uc] (mkMail x (k + P)) f := by
          refine ⟨.slice ua un uc, ?_, ?_, ?_, ?_, ?_⟩
          · simp only [mkMail]; rw [show k + P + 1 + 1 = k + (P : Int) + 2 by omega]
          · simp only [mkMail]; rw [show k + (P : Int) + 3 = k + P + 1 + 1 + 1 by omega]; exact hr
          all_goals (constructor <;> simp only [mkMail] <;> omega)
        have h1 := hupd w' cur1 _ (mkMail x (k + P)) hg' e2 (fun i u hi => ?_) (fun m hm => e4 m (by simp; omega)) rfl (fun b hb hne hnf hlt => (hw'.block b (by omega) hnf).trans (e5.block b hlt (by omega))) hE
        · rw [mix_set hlen hn] at h1
          refine ⟨h1, hW.out.trans ⟨hw'.os.trans e5.os, hw'.tape.trans e5.tape, hw'.output.trans e5.output, Nat.le_trans hsz hw'.size, fun b hb hns => ?_⟩⟩
          have hbg : b ≠ g := fun e => hns (e ▸ hS)
          exact (hw'.block b (by omega) fun h => hns (hf b h).1).trans (e5.block b hb (by omega))
        · match i, hi with
          | 0, hi => exact e3 0 u (by simpa using hi)
          | 1, hi => exact e3 1 u (by simpa using hi)
          | 2, hi => exact e3 2 u (by simpa using hi)
          | 3, hi => exact (e4 (j * 4 + 3) (.inr (by simp))).trans (hcs 3 u (by simpa using hi))
      clear hupd hcs hn hO hW hx e1 e2 e3 e4 e5 hu hh hroom hf
      go_wp2_with fail
      refine (markByteS_o f _ x.text _ _ HU.out hxt (by omega) (by omega)).mono ?_
      rintro e w2 ⟨rfl, R, W2⟩
      have HS2 := HS.out w2 W2 R
      have HM : Hid (MailsO w2 S (.slice (some ⟨g, 0, none⟩) l.length cap) (mix (mkMails k l) l (j + 1))) := HS2.1
      have HW : Hid (Wr S w w2) := HS2.2
      clear HS HS2 R W2 HU d0 d1 d2 d3 fz
      go_wp2
      go_roundw
      case rel => exact ⟨j + 1, by omega, by go_num, by rw [hp1]; go_num, HM, HW⟩
      case measure => simp [intOf]; omega
    · go_wp2
      go_ret
      obtain rfl : j = l.length := by omega
      exact ⟨rfl, by rw [← mix_all hlen]; exact hO.out, hW.out⟩

end Go.Proofs.YtdokgpdfdenoaaaGreat

/- What markBoxS of package laws does. -/
namespace Go.Proofs.YtdokgpdfdenoaaaGreat
open Go.RowKit
set_option maxRecDepth 100000
set_option linter.unusedVariables false

theorem ne_out {b g : Nat} (h : b ≠ g) : ¬ (g ≤ b ∧ b < g + 1) := by omega

set_option maxRecDepth 100000 in
set_option maxHeartbeats 4000000 in
theorem markBoxS_o (S : Nat → Prop) (v : Value) (l : List BoxD) (k : Int) (w : World) (hv : BoxesO w S v l) (hs : szXs l ≤ 2000000) (hk0 : 0 ≤ k) (hk1 : k ≤ 10000000000) :
    Calls Tryz.prog 26 #[v, .int .i64 k] w fun e w' => e = .returned (.int .i64 (k + wXs l)) ∧ BoxesO w' S v (mkBoxes k l) ∧ Wr S w w' := by
  have HV : Hid (BoxesO w S v l) := hv
  obtain ⟨a, cap, rfl, hlc, hcm⟩ := (hv.rd fun _ _ _ _ => BoxE.rd : BoxesV w v l).form
  clear hv
  have hl : l.length ≤ 2000000 := Nat.le_trans (szXs_len l) hs
  have hb : wXs l ≤ 8000000 := by have := wXs_le l; omega
  have hlen : (mkBoxes k l).length = l.length := length_mks
  go_enter Tryz.func26, Tryz.ntmps26
  go_wp2
  go_loopw [1, 5] (fun q i wr => ∃ j : Nat, j ≤ l.length ∧ i = .int .i64 j ∧ q = .int .i64 (k + (pre (wtAt zBox wtBox l) j : Nat)) ∧ Hid (BoxesO wr S (.slice a l.length cap) (mix (mkBoxes k l) l j)) ∧ Hid (Wr S w wr)) (fun _ i _ => l.length - (intOf i).toNat)
  case atStart => exact ⟨0, Nat.zero_le _, rfl, by simp [pre], by rw [mix_zero]; exact HV, Wr.refl _ _⟩
  case round =>
    obtain ⟨j, hj, rfl, rfl, hO, hW⟩ := hrel
    by_cases hlt : j < l.length
    · obtain ⟨x, hx⟩ : ∃ x, l[j]? = some x := ⟨l[j], List.getElem?_eq_getElem hlt⟩
      obtain ⟨g, cap', cur, c, f, hv', -, -, hh, hroom, hS, ⟨u0, u1, u2, S0, S1, S2, rfl, h0, h1, h2, s0, s1, s2, -⟩, -, hcs, hf, hupd⟩ := hO.out.upd framesBox j x ((mix_get hlen hlt).trans hx)
      simp only [Value.slice.injEq] at hv'
      obtain ⟨rfl, -, rfl⟩ := hv'
      have hp1 : pre (wtAt zBox wtBox l) (j + 1) = pre (wtAt zBox wtBox l) j + wtBox x := pre_step hx
      have hpj : pre (wtAt zBox wtBox l) (j + 1) ≤ wXs l := pre_le hlt
      have hn := mks_get (z := zBox) (mk := mkBox) (wt := wtBox) (k := k) hx
      generalize pre (wtAt zBox wtBox l) j = P at hpj hp1 hn
      have hxs := szXs_mem (List.mem_of_getElem? hx)
      have hx0 : x.name.length ≤ 2000000 := by simp only [szX] at hxs; omega
      have hx1 : szM x.mails ≤ 2000000 := by simp only [szX] at hxs; omega
      have hx2 : x.gones.length ≤ 2000000 := by simp only [szX] at hxs; omega
      have hwt : wtBox x = x.name.length + 3 + wMs x.mails + wGs x.gones + 1 := rfl
      have hP : (P : Int) ≤ 8000000 := by omega
      have hPn : (x.name.length : Int) ≤ 8000000 := by omega
      have hPm : (wMs x.mails : Int) ≤ 8000000 := by omega
      have hPg : (wGs x.gones : Int) ≤ 8000000 := by omega
      obtain ⟨a0, n0, c0, rfl⟩ := h0.bs.form3
      obtain ⟨a1, c1, rfl, -⟩ := (h1.rd fun _ _ _ _ => MailE.rd : MailsV _ _ _).form
      obtain ⟨a2, c2, rfl, -⟩ := (h2.rd fun _ _ _ _ h => h : GonesV _ _ _).form
      have hgl := lt_of_heap hh
      have hg0 : ¬ S0 g := fun h => (hf g (s0 g h).1).2 rfl
      have hg1 : ¬ S1 g := fun h => (hf g (s1 g h).1).2 rfl
      have hg2 : ¬ S2 g := fun h => (hf g (s2 g h)).2 rfl
      have HH : Hid (wr.heap[g]? = some (.cells cur 89 (0, 0))) := hh
      have H0 : Hid (RO wr S0 (.slice a0 n0 c0) x.name) := h0
      have H1 : Hid (MailsO wr S1 (.slice a1 x.mails.length c1) x.mails) := h1
      have H2 : Hid (GonesO wr S2 (.slice a2 x.gones.length c2) x.gones) := h2
      have d0 := (cell_of_row wr g (j * 7) cur _ (0, 0) hh).trans (hcs 0 _ rfl)
      have HS0 : Hid ((∀ y, S0 y → f y ∧ ¬ S1 y ∧ ¬ S2 y) ∧ (∀ y, S1 y → f y ∧ ¬ S2 y) ∧ (∀ y, S2 y → f y)) := ⟨s0, s1, s2⟩
      have HF : Hid (∀ b, f b → S b ∧ b ≠ g) := hf
      have HC : Hid (∀ i u, [Value.slice a0 n0 c0, .int .i64 x.valid, .int .i64 x.next, .int .i64 x.seq, .slice a1 x.mails.length c1, .slice a2 x.gones.length c2, .int .i64 x.lost][i]? = some u → cur[j * 7 + i]? = some u) := hcs
      have HN : Hid ((mix (mkBoxes k l) l j).set j (mkBox x (k + P)) = mix (mkBoxes k l) l (j + 1)) := mix_set hlen hn
      have HUP := (show Hid _ from hupd)
      clear hupd hcs hn hO h0 h1 h2 s0 s1 s2 hf hh hx hxs
      go_wp2_with fail
      refine (markByteS_o S0 _ x.name _ _ H0.out hx0 (by omega) (by omega)).mono ?_
      rintro e w1 ⟨rfl, R1, W1⟩
      have hs1 := W1.size
      have hh1 : w1.heap[g]? = some (.cells cur 89 (0, 0)) := (W1.block g hgl hg0).trans HH.out
      have fz : ∀ i, w1.frozen? ⟨g, i, none⟩ = false := fun i => frozen_of_row w1 g i cur _ hh1
      clear d0
      have d1 := (cell_of_row w1 g (j * 7 + 1) cur _ (0, 0) hh1).trans (HC.out 1 _ rfl)
      have d2 := (cell_of_row w1 g (j * 7 + 2) cur _ (0, 0) hh1).trans (HC.out 2 _ rfl)
      have d3 := (cell_of_row w1 g (j * 7 + 3) cur _ (0, 0) hh1).trans (HC.out 3 _ rfl)
      obtain ⟨cur1, e1, e2, e3, e4, e5⟩ := put_spec g _ [.int .i64 (k + P + x.name.length), .int .i64 (k + P + x.name.length + 1), .int .i64 (k + P + x.name.length + 1 + 1)] w1 (j * 7 + 1) cur hh1 (by simp; omega)
      have d4 : (((w1.setCell ⟨g, j * 7 + 1, none⟩ (.int .i64 (k + P + x.name.length))).setCell ⟨g, j * 7 + 2, none⟩ (.int .i64 (k + P + x.name.length + 1))).setCell ⟨g, j * 7 + 3, none⟩ (.int .i64 (k + P + x.name.length + 1 + 1))).cell? ⟨g, j * 7 + 4, none⟩ = some (.slice a1 x.mails.length c1) := (cell_of_row _ g (j * 7 + 4) cur1 _ (0, 0) e1).trans ((e4 (j * 7 + 4) (.inr (by simp))).trans (HC.out 4 _ rfl))
      have hsp := e5.size
      have HB1 : Hid (∀ b, b ≠ g → ¬ S0 b → b < wr.heap.size → (put w1 g (j * 7 + 1) [.int .i64 (k + P + x.name.length), .int .i64 (k + P + x.name.length + 1), .int .i64 (k + P + x.name.length + 1 + 1)]).heap[b]? = wr.heap[b]?) := fun b hb h0 hlt => (e5.block b (by omega) (by omega)).trans (W1.block b hlt h0)
      have H1' : Hid (MailsO (put w1 g (j * 7 + 1) [.int .i64 (k + P + x.name.length), .int .i64 (k + P + x.name.length + 1), .int .i64 (k + P + x.name.length + 1 + 1)]) S1 (.slice a1 x.mails.length c1) x.mails) :=
        H1.out.frame framesMail fun b hb hlt => HB1.out b (fun e => hg1 (e ▸ hb)) (fun h => (HS0.out.1 b h).2.1 hb) hlt
      have H2' : Hid (GonesO (put w1 g (j * 7 + 1) [.int .i64 (k + P + x.name.length), .int .i64 (k + P + x.name.length + 1), .int .i64 (k + P + x.name.length + 1 + 1)]) S2 (.slice a2 x.gones.length c2) x.gones) :=
        H2.out.frame framesGone fun b hb hlt => HB1.out b (fun e => hg2 (e ▸ hb)) (fun h => (HS0.out.1 b h).2.2 hb) hlt
      have H0' : Hid (RO (put w1 g (j * 7 + 1) [.int .i64 (k + P + x.name.length), .int .i64 (k + P + x.name.length + 1), .int .i64 (k + P + x.name.length + 1 + 1)]) S0 (.slice a0 n0 c0) (marks (k + P) x.name.length)) :=
        R1.frame fun b hb hlt => e5.block b hlt (ne_out fun e => hg0 (e ▸ hb))
      have HO1 : Hid ((put w1 g (j * 7 + 1) [.int .i64 (k + P + x.name.length), .int .i64 (k + P + x.name.length + 1), .int .i64 (k + P + x.name.length + 1 + 1)]).os = wr.os ∧ (put w1 g (j * 7 + 1) [.int .i64 (k + P + x.name.length), .int .i64 (k + P + x.name.length + 1), .int .i64 (k + P + x.name.length + 1 + 1)]).tape = wr.tape ∧ (put w1 g (j * 7 + 1) [.int .i64 (k + P + x.name.length), .int .i64 (k + P + x.name.length + 1), .int .i64 (k + P + x.name.length + 1 + 1)]).output = wr.output) := ⟨e5.os.trans W1.os, e5.tape.trans W1.tape, e5.output.trans W1.output⟩
      have E1 : Hid ((put w1 g (j * 7 + 1) [.int .i64 (k + P + x.name.length), .int .i64 (k + P + x.name.length + 1), .int .i64 (k + P + x.name.length + 1 + 1)]).heap[g]? = some (.cells cur1 89 (0, 0))) := e1
      have E2 : Hid (cur1.size = cur.size ∧ (∀ i u, [Value.int .i64 (k + P + x.name.length), .int .i64 (k + P + x.name.length + 1), .int .i64 (k + P + x.name.length + 1 + 1)][i]? = some u → cur1[j * 7 + 1 + i]? = some u) ∧ (∀ m, m < j * 7 + 1 ∨ j * 7 + 4 ≤ m → cur1[m]? = cur[m]?)) := ⟨e2, e3, fun m hm => e4 m (by simp; omega)⟩
      clear e1 e2 e3 e4 e5 R1 W1 hh1 HH H0 H1 H2
      go_wp2_with fail
      refine (markMailS_o S1 _ x.mails _ _ H1'.out hx1 (by omega) (by omega)).mono ?_
      rintro e w2 ⟨rfl, R2, W2⟩
      have hs2 := W2.size
      have E1' : Hid (w2.heap[g]? = some (.cells cur1 89 (0, 0))) := (W2.block g (by omega) hg1).trans E1.out
      have HB2 : Hid (∀ b, b ≠ g → ¬ S0 b → ¬ S1 b → b < wr.heap.size → w2.heap[b]? = wr.heap[b]?) := fun b hb h0 h1 hlt => (W2.block b (by omega) h1).trans (HB1.out b hb h0 hlt)
      have G2 : Hid (GonesO w2 S2 (.slice a2 x.gones.length c2) x.gones) := H2'.out.frame framesGone fun b hb hlt => W2.block b hlt fun h => (HS0.out.2.1 b h).2 hb
      have G0 : Hid (RO w2 S0 (.slice a0 n0 c0) (marks (k + P) x.name.length)) := H0'.out.frame fun b hb hlt => W2.block b hlt fun h => (HS0.out.1 b hb).2.1 h
      have G1 : Hid (MailsO w2 S1 (.slice a1 x.mails.length c1) (mkMails (k + P + x.name.length + 1 + 1 + 1) x.mails)) := R2
      have HO2 : Hid (w2.os = wr.os ∧ w2.tape = wr.tape ∧ w2.output = wr.output) := ⟨W2.os.trans HO1.out.1, W2.tape.trans HO1.out.2.1, W2.output.trans HO1.out.2.2⟩
      have d5 := (cell_of_row w2 g (j * 7 + 5) cur1 _ (0, 0) E1'.out).trans ((E2.out.2.2 (j * 7 + 5) (.inr (by omega))).trans (HC.out 5 _ rfl))
      have hgl2 : g < w2.heap.size := by omega
      have hsz2 : wr.heap.size ≤ w2.heap.size := by omega
      clear d1 d2 d3 d4 fz R2 W2 H1' H2' H0' HB1 HO1 E1 hs1 hs2 hsp
      go_wp2_with fail
      refine (markGoneS_o S2 _ x.gones _ _ G2.out hx2 (by omega) (by omega)).mono ?_
      rintro e w3 ⟨rfl, R3, W3⟩
      have hs3 := W3.size
      have E3 : w3.heap[g]? = some (.cells cur1 89 (0, 0)) := (W3.block g hgl2 hg2).trans E1'.out
      have fz : ∀ i, w3.frozen? ⟨g, i, none⟩ = false := fun i => frozen_of_row w3 g i cur1 _ E3
      have d6 := (cell_of_row w3 g (j * 7 + 6) cur1 _ (0, 0) E3).trans ((E2.out.2.2 (j * 7 + 6) (.inr (by omega))).trans (HC.out 6 _ rfl))
      have hgl3 : g < w3.heap.size := by omega
      have HFIN : Hid (BoxesO (put w3 g (j * 7 + 6) [.int .i64 (k + P + x.name.length + 1 + 1 + 1 + wMs x.mails + wGs x.gones)]) S (.slice (some ⟨g, 0, none⟩) l.length cap) (mix (mkBoxes k l) l (j + 1)) ∧ Wr S w (put w3 g (j * 7 + 6) [.int .i64 (k + P + x.name.length + 1 + 1 + 1 + wMs x.mails + wGs x.gones)])) := by
        obtain ⟨cur2, p1, p2, p3, p4, p5⟩ := put_spec g _ [.int .i64 (k + P + x.name.length + 1 + 1 + 1 + wMs x.mails + wGs x.gones)] w3 (j * 7 + 6) cur1 E3 (by have := E2.out.1; simp; omega)
        have hsp := p5.size
        have hB : ∀ b, b ≠ g → ¬ S0 b → ¬ S1 b → ¬ S2 b → b < wr.heap.size → (put w3 g (j * 7 + 6) [.int .i64 (k + P + x.name.length + 1 + 1 + 1 + wMs x.mails + wGs x.gones)]).heap[b]? = wr.heap[b]? := fun b hb h0 h1 h2 hlt => (p5.block b (by omega) (by omega)).trans ((W3.block b (by omega) h2).trans (HB2.out b hb h0 h1 hlt))
        have hE : BoxE (put w3 g (j * 7 + 6) [.int .i64 (k + P + x.name.length + 1 + 1 + 1 + wMs x.mails + wGs x.gones)]) [Value.slice a0 n0 c0, .int .i64 (k + P + x.name.length), .int .i64 (k + P + x.name.length + 1), .int .i64 (k + P + x.name.length + 1 + 1), .slice a1 x.mails.length c1, .slice a2 x.gones.length c2, .int .i64 (k + P + x.name.length + 1 + 1 + 1 + wMs x.mails + wGs x.gones)] (mkBox x (k + P)) f := by
          refine ⟨.slice a0 n0 c0, .slice a1 x.mails.length c1, .slice a2 x.gones.length c2, S0, S1, S2, ?_, ?_, ?_, ?_, HS0.out.1, HS0.out.2.1, HS0.out.2.2, ?_, ?_, ?_, ?_⟩
          · simp only [mkBox]
            rw [show k + P + x.name.length + 1 + 1 + 1 = k + (P : Int) + x.name.length + 3 by omega, show k + P + x.name.length + 1 + 1 = k + (P : Int) + x.name.length + 2 by omega]
          · exact G0.out.frame fun b hb hlt => (p5.block b (by omega) (ne_out fun e => hg0 (e ▸ hb))).trans (W3.block b hlt (HS0.out.1 b hb).2.2)
          · simp only [mkBox]
            rw [show k + (P : Int) + x.name.length + 3 = k + P + x.name.length + 1 + 1 + 1 by omega]
            exact G1.out.frame framesMail fun b hb hlt => (p5.block b (by omega) (ne_out fun e => hg1 (e ▸ hb))).trans (W3.block b hlt (HS0.out.2.1 b hb).2)
          · simp only [mkBox]
            rw [show k + (P : Int) + x.name.length + 3 = k + P + x.name.length + 1 + 1 + 1 by omega]
            exact R3.frame framesGone fun b hb hlt => p5.block b hlt (ne_out fun e => hg2 (e ▸ hb))
          all_goals (constructor <;> simp only [mkBox] <;> omega)
        have hfin := HUP.out _ cur2 _ (mkBox x (k + P)) p1 (p2.trans E2.out.1) (fun i u hi => ?_) (fun m hm => (p4 m (by simp; omega)).trans (E2.out.2.2 m (by omega))) rfl (fun b hb hne hnf hlt => hB b hne (fun h => hnf (HS0.out.1 b h).1) (fun h => hnf (HS0.out.2.1 b h).1) (fun h => hnf (HS0.out.2.2 b h)) hlt) hE
        · rw [HN.out] at hfin
          refine ⟨hfin, hW.out.trans ⟨?_, ?_, ?_, by omega, fun b hb hns => hB b (fun e => hns (e ▸ hS)) (fun h => hns (HF.out b (HS0.out.1 b h).1).1) (fun h => hns (HF.out b (HS0.out.2.1 b h).1).1) (fun h => hns (HF.out b (HS0.out.2.2 b h)).1) hb⟩⟩
          · exact p5.os.trans (W3.os.trans HO2.out.1)
          · exact p5.tape.trans (W3.tape.trans HO2.out.2.1)
          · exact p5.output.trans (W3.output.trans HO2.out.2.2)
        · match i, hi with
          | 0, hi => exact (p4 (j * 7 + 0) (.inl (by omega))).trans ((E2.out.2.2 _ (.inl (by omega))).trans (HC.out 0 u (by simpa using hi)))
          | 1, hi => exact (p4 (j * 7 + 1) (.inl (by omega))).trans (E2.out.2.1 0 u (by simpa using hi))
          | 2, hi => exact (p4 (j * 7 + 2) (.inl (by omega))).trans (E2.out.2.1 1 u (by simpa using hi))
          | 3, hi => exact (p4 (j * 7 + 3) (.inl (by omega))).trans (E2.out.2.1 2 u (by simpa using hi))
          | 4, hi => exact (p4 (j * 7 + 4) (.inl (by omega))).trans ((E2.out.2.2 _ (.inr (by omega))).trans (HC.out 4 u (by simpa using hi)))
          | 5, hi => exact (p4 (j * 7 + 5) (.inl (by omega))).trans ((E2.out.2.2 _ (.inr (by omega))).trans (HC.out 5 u (by simpa using hi)))
          | 6, hi => exact p3 0 u (by simpa using hi)
      clear HUP HN HC HF HS0 G0 G1 G2 E1' E2 HO2 HB2 R3 W3 E3 hW hs3 hsz2 d5
      go_wp2
      go_roundw
      case rel => exact ⟨j + 1, by omega, by go_num, by rw [hp1, hwt]; go_num, HFIN.out.1, HFIN.out.2⟩
      case measure => simp [intOf]; omega
    · go_wp2
      go_ret
      obtain rfl : j = l.length := by omega
      exact ⟨rfl, by rw [← mix_all hlen]; exact hO.out, hW.out⟩

end Go.Proofs.YtdokgpdfdenoaaaGreat

/- What markIntS of package laws does. -/
namespace Go.Proofs.YtdokgpdfdenoaaaGreat
open Go.RowKit
set_option maxRecDepth 100000
set_option linter.unusedVariables false

set_option maxHeartbeats 1000000 in
theorem markIntS_o (S : Nat → Prop) (v : Value) (l : List Int) (k : Int) (w : World) (hv : IntsO w S v l) (hl : l.length ≤ 2000000) (hk0 : 0 ≤ k) (hk1 : k ≤ 100000000000) :
    Calls Tryz.prog 27 #[v, .int .i64 k] w fun e w' => e = .returned (.int .i64 (k + wIs l)) ∧ IntsO w' S v (mkInts k l) ∧ Wr S w w' := by
  have HV : Hid (IntsO w S v l) := hv
  obtain ⟨a, cap, rfl, hlc, hcm⟩ := (hv.rd fun _ _ _ _ h => h : IntsV w v l).form
  clear hv
  have hw := wIs_eq l
  have hlen : (mkInts k l).length = l.length := length_mks
  go_enter Tryz.func27, Tryz.ntmps27
  go_wp2
  go_loopw [1, 5] (fun q i wr => ∃ j : Nat, j ≤ l.length ∧ i = .int .i64 j ∧ q = .int .i64 (k + (pre (wtAt 0 wtInt l) j : Nat)) ∧ Hid (IntsO wr S (.slice a l.length cap) (mix (mkInts k l) l j)) ∧ Hid (Wr S w wr)) (fun _ i _ => l.length - (intOf i).toNat)
  case atStart => exact ⟨0, Nat.zero_le _, rfl, by simp [pre], by rw [mix_zero]; exact HV, Wr.refl _ _⟩
  case round =>
    obtain ⟨j, hj, rfl, rfl, hO, hW⟩ := hrel
    by_cases hlt : j < l.length
    · obtain ⟨x, hx⟩ : ∃ x, l[j]? = some x := ⟨l[j], List.getElem?_eq_getElem hlt⟩
      obtain ⟨g, cap', c, f, hv', -, -, hgl, hS, ⟨rfl, -⟩, -, -, hc, fz, -, hput⟩ := hO.out.put framesInt j x ((mix_get hlen hlt).trans hx)
      simp only [Value.slice.injEq] at hv'
      obtain ⟨rfl, -, rfl⟩ := hv'
      have hpj : pre (wtAt 0 wtInt l) j ≤ wIs l := pre_le (Nat.le_of_lt hlt)
      have hp1 : pre (wtAt 0 wtInt l) (j + 1) = pre (wtAt 0 wtInt l) j + 1 := pre_step hx
      have hn := mks_get (z := 0) (mk := mkInt) (wt := wtInt) (k := k) hx
      generalize pre (wtAt 0 wtInt l) j = P at hpj hp1 hn
      have hP : (P : Int) ≤ 4000000 := by omega
      have d0 := hc 0 _ rfl
      simp only [Nat.add_zero, Nat.mul_one] at d0 hput
      have HS : Hid (IntsO (put wr g j [.int .i64 (k + P)]) S (.slice (some ⟨g, 0, none⟩) l.length cap) (mix (mkInts k l) l (j + 1)) ∧ Wr S w (put wr g j [.int .i64 (k + P)])) := by
        obtain ⟨h1, h2⟩ := hput [.int .i64 (k + P)] (mkInt x (k + P)) rfl (fun w' _ => ⟨rfl, by constructor <;> simp only [mkInt] <;> omega⟩)
        rw [mix_set hlen hn] at h1
        exact ⟨h1, hW.out.trans h2⟩
      clear hput hc hn hO hW hx hw
      go_wp2
      go_roundw
      case rel => exact ⟨j + 1, by omega, by go_num, by rw [hp1]; go_num, HS.out.1, HS.out.2⟩
      case measure => simp [intOf]; omega
    · go_wp2
      go_ret
      obtain rfl : j = l.length := by omega
      exact ⟨rfl, by rw [← mix_all hlen]; exact hO.out, hW.out⟩

end Go.Proofs.YtdokgpdfdenoaaaGreat

/- What markAccount of package laws does. -/
namespace Go.Proofs.YtdokgpdfdenoaaaGreat
open Go.RowKit
set_option linter.unusedVariables false

def mkAcc (k : Int) (x : AccD) : AccD := ⟨x.valid, mkBoxes k x.boxes, mkInts (k + wXs x.boxes) x.seen⟩
def wAcc (x : AccD) : Nat := wXs x.boxes + wIs x.seen

end Go.Proofs.YtdokgpdfdenoaaaGreat
