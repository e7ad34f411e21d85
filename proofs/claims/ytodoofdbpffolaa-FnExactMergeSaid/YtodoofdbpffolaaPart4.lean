/- The proof's texts, part 4. -/
import Derived.Test.YtodoofdbpffolaaPart3
import Derived.Test.YtodoofdbpffolaaPart1
import Derived.Shelf.Abstract
import Derived.Laws.AppendOwnNone
import Derived.Lib.ItoaNum

/- What bytes.Equal and laterOf of package impl do. -/
namespace Go.Proofs.Ytodoofdbpffolaa
open Go.RowKit
set_option maxRecDepth 100000
set_option linter.unusedVariables false

theorem bts_inj : ∀ {l m : List Int}, Oct l → Oct m → bts l = bts m → l = m
  | [], [], _, _, _ => rfl
  | [], _ :: _, _, _, h => by simp [bts] at h
  | _ :: _, [], _, _, h => by simp [bts] at h
  | x :: l, y :: m, hl, hm, h => by
    simp only [bts, List.map_cons, List.cons.injEq] at h
    have hx := hl x (by simp)
    have hy := hm y (by simp)
    have h1 : x = y := by
      have := congrArg UInt8.toNat h.1
      simp only [UInt8.toNat_ofNat'] at this
      rw [Nat.mod_eq_of_lt (by omega), Nat.mod_eq_of_lt (by omega)] at this
      omega
    rw [h1, bts_inj (fun z hz => hl z (by simp [hz])) (fun z hz => hm z (by simp [hz])) h.2]
theorem str_toList' (l : List Int) : (strOfNums l).toList = bts l := by
  rw [ByteArray.toList_eq]
  rfl
theorem str_eq {l m : List Int} (hl : Oct l) (hm : Oct m) : ((strOfNums l).toList == (strOfNums m).toList) = decide (l = m) := by
  rw [str_toList', str_toList', Bool.eq_iff_iff]
  simp only [beq_iff_eq, decide_eq_true_eq]
  exact ⟨bts_inj hl hm, fun h => by rw [h]⟩

set_option maxHeartbeats 400000 in
theorem bytesEqual_any (v u : Value) (l m : List Int) (w : World) (hv : Bs w v l) (hu : Bs w u m) :
    Calls Try.prog 44 #[v, u] w fun e w' => e = .returned (.bool (decide (l = m))) ∧ w' = w := by
  have h1 := run_convert_bs hv
  have h2 := run_convert_bs hu
  have HE : Hid (((strOfNums l).toList == (strOfNums m).toList) = decide (l = m)) := str_eq hv.1 hu.1
  obtain ⟨a, n, c, rfl⟩ := hv.form3
  obtain ⟨a', n', c', rfl⟩ := hu.form3
  clear hv hu
  go_enter Try.func44, Try.ntmps44
  go_wp2
  go_ret
  exact ⟨ret_b HE.out.symm, rfl⟩

/-- One box can be what became of another. -/
def laterB (x y : BoxD) : Bool := decide (x.name = y.name) && (decide (x.valid = y.valid) && (decide (x.seq ≤ y.seq) && decide (x.next ≤ y.next)))

set_option maxRecDepth 100000 in
set_option maxHeartbeats 1000000 in
theorem laterOf_any (v u : Value) (x y : BoxD) (w : World) (hv : BoxV w v x) (hu : BoxV w u y) :
    Calls Try.prog 22 #[v, u] w fun e w' => e = .returned (.bool (laterB x y)) ∧ Below w.heap.size w w' := by
  obtain ⟨u0, u1, u2, rfl, g0, g1, g2, -⟩ := hv
  obtain ⟨u3, u4, u5, rfl, g3, g4, g5, -⟩ := hu
  have HN : Hid (∀ wi, Below w.heap.size w wi → Calls Try.prog 44 #[u0, u3] wi fun e w' => e = .returned (.bool (decide (x.name = y.name))) ∧ w' = wi) := fun wi h => bytesEqual_any _ _ _ _ wi (g0.below h) (g3.below h)
  have HC : Hid (laterB x y = (decide (x.name = y.name) && (decide (x.valid = y.valid) && (decide (x.seq ≤ y.seq) && decide (x.next ≤ y.next))))) := rfl
  generalize decide (x.name = y.name) = X1 at HN HC
  obtain ⟨a0, n0, c0, rfl⟩ := g0.form3
  obtain ⟨a1, c1, rfl, -⟩ := g1.form
  obtain ⟨a2, c2, rfl, -⟩ := g2.form
  obtain ⟨a3, n3, c3, rfl⟩ := g3.form3
  obtain ⟨a4, c4, rfl, -⟩ := g4.form
  obtain ⟨a5, c5, rfl, -⟩ := g5.form
  clear g0 g1 g2 g3 g4 g5
  obtain ⟨kA, kB, X⟩ := boxes2 w (.cells #[.slice a0 n0 c0, .int .i64 x.valid, .int .i64 x.next, .int .i64 x.seq, .slice a1 x.mails.length c1, .slice a2 x.gones.length c2, .int .i64 x.lost] 31) (.cells #[.slice a3 n3 c3, .int .i64 y.valid, .int .i64 y.next, .int .i64 y.seq, .slice a4 y.mails.length c4, .slice a5 y.gones.length c5, .int .i64 y.lost] 31)
  have hE := HN.out _ X
  go_enter Try.func22, Try.ntmps22
  go_wp2_with fail
  refine hE.mono ?_
  rintro e w' ⟨rfl, rfl⟩
  cases X1 with
  | false =>
    go_wp2
    go_ret
    exact ⟨ret_b HC.out, X⟩
  | true =>
    by_cases h2 : x.valid = y.valid
    · have e2 : (x.valid == y.valid) = true := by simpa using h2
      have H2 : Hid (decide (x.valid = y.valid) = true) := decide_eq_true h2
      clear h2
      by_cases h3 : x.seq ≤ y.seq
      · have H3 : Hid (decide (x.seq ≤ y.seq) = true) := decide_eq_true h3
        go_wp2
        go_ret
        exact ⟨ret_b (HC.out.trans (by rw [H2.out, H3.out]; simp)), X⟩
      · have H3 : Hid (decide (x.seq ≤ y.seq) = false) := decide_eq_false h3
        go_wp2
        go_ret
        exact ⟨ret_b (HC.out.trans (by rw [H2.out, H3.out]; simp)), X⟩
    · have e2 : (x.valid == y.valid) = false := by simpa using h2
      have H2 : Hid (decide (x.valid = y.valid) = false) := decide_eq_false h2
      clear h2
      go_wp2
      go_ret
      exact ⟨ret_b (HC.out.trans (by rw [H2.out]; simp)), X⟩

end Go.Proofs.Ytodoofdbpffolaa

/- What a merge makes of two boxes, on lists. -/
namespace Go.Proofs.Ytodoofdbpffolaa
open Go.RowKit
set_option linter.unusedVariables false
set_option linter.unusedSimpArgs false

def nilX : BoxD := ⟨[], 0, 0, 0, [], [], 0⟩
def findM (l : List MailD) (u : Int) : Option MailD := l.find? fun m => decide (m.uid = u)
/-- The mail that a number has in what comes. -/
def pickM (o c : BoxD) (u : Int) : Option MailD := (findM c.mails u).or (if c.gones.any (fun g => decide (g.uid = u)) then none else findM o.mails u)
def mergedM (o c : BoxD) : List MailD := (List.range (c.next - 1).toNat).filterMap fun (i : Nat) => pickM o c ((i : Int) + 1)
def mergeB (o c : BoxD) : Bool := boxB o 1000000 && (boxB c 1000000 && (laterB o c && decide ((mergedM o c).length ≤ 12)))
def mergeD (o c : BoxD) : BoxD := if mergeB o c then ⟨c.name, c.valid, c.next, c.seq, mergedM o c, [], c.lost⟩ else nilX

theorem findM_uid {l : List MailD} {u : Int} {m : MailD} (h : findM l u = some m) : m.uid = u := by simpa using List.find?_some h
theorem findM_mem {l : List MailD} {u : Int} {m : MailD} (h : findM l u = some m) : m ∈ l := List.mem_of_find?_eq_some h
theorem pickM_uid {o c : BoxD} {u : Int} {m : MailD} (h : pickM o c u = some m) : m.uid = u := by
  unfold pickM at h
  rcases Option.or_eq_some_iff.1 h with h | ⟨-, h⟩
  · exact findM_uid h
  · split at h
    · cases h
    · exact findM_uid h
theorem pickM_mem {o c : BoxD} {u : Int} {m : MailD} (h : pickM o c u = some m) : m ∈ c.mails ∨ m ∈ o.mails := by
  unfold pickM at h
  rcases Option.or_eq_some_iff.1 h with h | ⟨-, h⟩
  · exact .inl (findM_mem h)
  · split at h
    · cases h
    · exact .inr (findM_mem h)

/-- What a box that is right says of its mails. -/
structure OkM (b : BoxD) : Prop where
  len : b.mails.length ≤ 12
  glen : b.gones.length ≤ 40
  sorted : b.mails.Pairwise (fun x y => x.uid < y.uid)
  mem : ∀ m ∈ b.mails, 1 ≤ m.uid ∧ m.uid < b.next ∧ 1 ≤ m.seq ∧ m.text.length ≤ 30
  next : 1 ≤ b.next ∧ b.next ≤ 1000000
theorem okM_of {b : BoxD} {v : Int} (h : boxB b v = true) : OkM b := by
  simp only [boxB, Bool.and_eq_true, inB, decide_eq_true_eq, mailsB, gonesB, List.all_eq_true, List.mem_range] at h
  obtain ⟨-, -, ⟨n1, n2⟩, -, -, ⟨l1, hm⟩, l2, -⟩ := h
  have hat : ∀ (i : Nat) (m : MailD), b.mails[i]? = some m → prevU b.mails i + 1 ≤ m.uid ∧ m.uid ≤ b.next - 1 ∧ 1 ≤ m.seq ∧ m.text.length ≤ 30 := by
    intro i m hi
    have := hm i (List.getElem?_eq_some_iff.1 hi).1
    simp only [mailAt, hi, inB, Bool.and_eq_true, decide_eq_true_eq, textB] at this
    obtain ⟨⟨a1, a2⟩, -, ⟨a3, -⟩, a4, -⟩ := this
    exact ⟨a1, a2, a3, a4⟩
  have hge : ∀ (i : Nat) (m : MailD), b.mails[i]? = some m → 1 ≤ m.uid := by
    intro i
    induction i with
    | zero => intro m hi; have := (hat 0 m hi).1; simp only [prevU] at this; omega
    | succ i ih =>
      intro m hi
      have hl := (List.getElem?_eq_some_iff.1 hi).1
      have h2 := List.getElem?_eq_getElem (show i < b.mails.length by omega)
      have := (hat (i + 1) m hi).1
      simp only [prevU, h2] at this
      have := ih _ h2
      omega
  have hstep : ∀ (k i : Nat) (x y : MailD), b.mails[i]? = some x → b.mails[i + k + 1]? = some y → x.uid < y.uid := by
    intro k
    induction k with
    | zero =>
      intro i x y hx hy
      have := (hat (i + 1) y hy).1
      simp only [prevU, hx] at this
      omega
    | succ k ih =>
      intro i x y hx hy
      have hl := (List.getElem?_eq_some_iff.1 hy).1
      have h2 := List.getElem?_eq_getElem (show i + k + 1 < b.mails.length by omega)
      have a := ih i x _ hx h2
      have c := (hat (i + (k + 1) + 1) y hy).1
      rw [show i + (k + 1) + 1 = (i + k + 1) + 1 by omega] at c
      simp only [prevU, h2] at c
      omega
  refine ⟨l1, l2, ?_, fun m hmem => ?_, n1, n2⟩
  · rw [List.pairwise_iff_getElem]
    intro i j hi hj hij
    have := hstep (j - i - 1) i b.mails[i] b.mails[j] (List.getElem?_eq_getElem hi) (by rw [show i + (j - i - 1) + 1 = j by omega]; exact List.getElem?_eq_getElem hj)
    exact this
  · obtain ⟨i, hi, rfl⟩ := List.getElem_of_mem hmem
    have h2 := List.getElem?_eq_getElem hi
    have a := hat i _ h2
    exact ⟨hge i _ h2, by omega, a.2.2⟩

theorem mergedM_sorted (o c : BoxD) : (mergedM o c).Pairwise (fun x y => x.uid < y.uid) := by
  unfold mergedM
  rw [List.pairwise_filterMap]
  refine List.Pairwise.imp (fun {a b} h x hx y hy => ?_) (List.pairwise_lt_range (n := (c.next - 1).toNat))
  have := pickM_uid hx
  have := pickM_uid hy
  omega
theorem mergedM_mem {o c : BoxD} {m : MailD} (h : m ∈ mergedM o c) : (m ∈ c.mails ∨ m ∈ o.mails) ∧ pickM o c m.uid = some m ∧ 1 ≤ m.uid ∧ m.uid < c.next := by
  unfold mergedM at h
  obtain ⟨i, hi, hp⟩ := List.mem_filterMap.1 h
  have hu := pickM_uid hp
  rw [List.mem_range] at hi
  exact ⟨pickM_mem hp, by rw [hu]; exact hp, by omega, by omega⟩
theorem mergedM_find {o c : BoxD} (ho : OkM o) (hc : OkM c) (hn : o.next ≤ c.next) (u : Int) : findM (mergedM o c) u = pickM o c u := by
  cases hp : pickM o c u with
  | some m =>
    have hu := pickM_uid hp
    have hr : 1 ≤ u ∧ u < c.next := by
      rcases pickM_mem hp with h | h
      · have := hc.mem m h; omega
      · have := ho.mem m h; omega
    have hm : m ∈ mergedM o c := by
      unfold mergedM
      refine List.mem_filterMap.2 ⟨(u - 1).toNat, by rw [List.mem_range]; omega, ?_⟩
      rw [show (((u - 1).toNat : Nat) : Int) + 1 = u by omega]
      exact hp
    have := find_sorted (mergedM_sorted o c) hm
    rw [hu] at this
    exact this
  | none =>
    unfold findM
    rw [List.find?_eq_none]
    intro m hm
    have := (mergedM_mem hm).2.1
    simp only [decide_eq_true_eq]
    intro e
    rw [e, hp] at this
    cases this

/-! ### the entries of the map -/
theorem findE_lay {E : Ents} {v : Int} {ms : List MailD} (hs : ms.Pairwise (fun x y => x.uid < y.uid)) (u : Int) : findE (layE E v ms) v u = (findM ms u).or (findE E v u) := by
  induction ms generalizing E with
  | nil => rfl
  | cons m ms ih =>
    obtain ⟨h1, h2⟩ := List.pairwise_cons.1 hs
    show findE (layE (putE E v m.uid m) v ms) v u = _
    rw [ih h2]
    unfold findM
    rw [List.find?_cons]
    by_cases e : m.uid = u
    · subst e
      have : List.find? (fun x : MailD => decide (x.uid = m.uid)) ms = none := by
        rw [List.find?_eq_none]
        intro x hx
        have := h1 x hx
        simp only [decide_eq_true_eq]
        omega
      rw [this, findE_put_same]
      simp
    · rw [findE_put_other (fun h => e h.2.symm)]
      simp [e]
def delAll (E : Ents) (v : Int) (gs : List GoneD) : Ents := gs.foldl (fun E g => delE E v g.uid) E
theorem delAll_step {E : Ents} {v : Int} {gs : List GoneD} {k : Nat} {g : GoneD} (h : gs[k]? = some g) : delAll E v (gs.take (k + 1)) = delE (delAll E v (gs.take k)) v g.uid := by
  obtain ⟨hk, rfl⟩ := List.getElem?_eq_some_iff.1 h
  unfold delAll
  rw [List.take_succ_eq_append_getElem hk, List.foldl_append]
  rfl
theorem findE_delAll {E : Ents} {v : Int} {gs : List GoneD} (u : Int) : findE (delAll E v gs) v u = if gs.any (fun g => decide (g.uid = u)) then none else findE E v u := by
  induction gs generalizing E with
  | nil => rfl
  | cons g gs ih =>
    show findE (delAll (delE E v g.uid) v gs) v u = _
    rw [ih]
    by_cases e : g.uid = u
    · subst e
      rw [findE_del_same]
      simp
    · rw [findE_del_other (fun h => e h.2.symm)]
      simp [e]
/-- All entries lie at one box' number. -/
def OneV (E : Ents) (v : Int) : Prop := ∀ e ∈ E, e.1 = v
theorem OneV.put {E : Ents} {v : Int} (h : OneV E v) (u : Int) (m : MailD) : OneV (putE E v u m) v := by
  intro e he
  rcases List.mem_append.1 he with he | he
  · exact h e (List.mem_filter.1 he).1
  · rw [List.mem_singleton] at he; subst he; rfl
theorem OneV.lay {E : Ents} {v : Int} (h : OneV E v) (ms : List MailD) : OneV (layE E v ms) v := by
  induction ms generalizing E with
  | nil => exact h
  | cons m ms ih => exact ih (h.put m.uid m)
theorem OneV.del {E : Ents} {v : Int} (h : OneV E v) (gs : List GoneD) : OneV (delAll E v gs) v := by
  induction gs generalizing E with
  | nil => exact h
  | cons g gs ih => exact ih (fun e he => h e (List.mem_filter.1 he).1)
theorem ents_len {E : Ents} {v : Int} {ms : List MailD} (hd : DistE E) (ho : OneV E v) (hi : ∀ e ∈ E, I64 e.2.1) (h : EntsOf E v ms) : E.length = ms.length := by
  have hp : (E.map fun e => e.2.1).Perm (ms.map fun m => m.uid) := by
    refine (List.perm_ext_iff_of_nodup ?_ ?_).2 fun u => ?_
    · rw [List.Nodup, List.pairwise_map]
      refine List.Pairwise.imp_of_mem (fun {a b} ha hb hne e => hne ⟨(ho a ha).trans (ho b hb).symm, e⟩) hd
    · exact (List.pairwise_map.2 h.sorted).imp fun h => Int.ne_of_lt h
    · rw [h.mem u]
      constructor
      · intro hu
        obtain ⟨e, he, rfl⟩ := List.mem_map.1 hu
        refine ⟨hi e he, ?_⟩
        obtain ⟨a, b, m⟩ := e
        have := ho _ he
        simp only at this
        subst this
        rw [hd.find he]
        rfl
      · rintro ⟨-, h2⟩
        obtain ⟨m, hm⟩ := Option.isSome_iff_exists.1 h2
        exact List.mem_map.2 ⟨_, findE_mem hm, rfl⟩
  have := hp.length_eq
  simpa using this

/-- What lies in the map behind both boxes. -/
def entsM (o c : BoxD) : Ents := layE (delAll (layE [] c.valid o.mails) c.valid c.gones) c.valid c.mails
theorem entsM_of {o c : BoxD} (ho : OkM o) (hc : OkM c) (hn : o.next ≤ c.next) : EntsOf (entsM o c) c.valid (mergedM o c) := by
  refine ⟨mergedM_sorted o c, fun m hm => ?_, fun u hu => ?_⟩
  · have := (mergedM_mem hm).2.2
    have := hc.next
    exact ⟨by omega, by omega⟩
  · have h1 := mergedM_find ho hc hn u
    unfold findM at h1
    rw [h1]
    unfold entsM pickM
    rw [findE_lay hc.sorted, findE_delAll, findE_lay ho.sorted]
    simp [findE]
theorem entsM_one (o c : BoxD) : OneV (entsM o c) c.valid := ((OneV.lay (E := []) (by intro e he; cases he) o.mails).del c.gones).lay c.mails
theorem mergedM_seq {o c : BoxD} (ho : OkM o) (hc : OkM c) : (mergedM o c).filter (fun m => decide ((0 : Int) < m.seq)) = mergedM o c := by
  rw [List.filter_eq_self]
  intro m hm
  rcases (mergedM_mem hm).1 with h | h
  · have := hc.mem m h; simp; omega
  · have := ho.mem m h; simp; omega
theorem mergedM_text {o c : BoxD} (ho : OkM o) (hc : OkM c) : ∀ m ∈ mergedM o c, m.text.length ≤ 30 := by
  intro m hm
  rcases (mergedM_mem hm).1 with h | h
  · exact (hc.mem m h).2.2.2
  · exact (ho.mem m h).2.2.2

end Go.Proofs.Ytodoofdbpffolaa

/- What slices.IndexFunc and slices.ContainsFunc do of bytes, whatever function is handed in. -/
namespace Go.Proofs.Ytodoofdbpffolaa
open Go.RowKit Go.Shelf
set_option maxRecDepth 100000

set_option maxHeartbeats 400000 in
theorem indexFuncB (g : Nat) (lb : Array Value) (p : Int → Bool) (v : Value) (l : List Int) (w : World) (hv : Bs w v l) (eg : ∀ args w, (callFunc g args).run Try.prog w = .ok (.enter g args) w)
    (hp : ∀ x, 0 ≤ x → x ≤ 255 → Calls Try.prog g (#[.int .u8 x] ++ lb) w fun e w' => e = .returned (.bool (p x)) ∧ w' = w) :
    Calls Try.prog 66 #[v, .func (.func g) #[] lb] w fun e w' => e = .returned (.int .i64 (firstI p l)) ∧ w' = w := by
  obtain ⟨ho, a, cap, rfl, hlc, hcm, hnil, hcells⟩ := hv
  unfold maxLen at hcm
  go_enter Try.func66, Try.ntmps66
  go_wp2
  go_loop [5, 8] (fun _ i => ∃ k : Nat, k ≤ l.length ∧ i = .int .i64 k ∧ Hid (∀ j, j < k → p (l.getD j 0) = false)) (fun _ i => l.length - (intOf i).toNat)
  case atStart => exact ⟨0, Nat.zero_le _, rfl, fun j hj => absurd hj (Nat.not_lt_zero _)⟩
  case round =>
    obtain ⟨k, hk, rfl, hA⟩ := hrel
    by_cases hlt : k < l.length
    · obtain ⟨b, off, rfl, hlb, hc⟩ := hcells (by omega)
      have hx := hc k hlt
      have hbx := oct_get ho k
      generalize hy : l.getD k 0 = x at hx hbx
      have HX : Hid (l.getD k 0 = x) := hy
      clear hy hc hcells
      have hcall := hp x hbx.1 hbx.2
      clear hp
      cases hq : p x with
      | true =>
        rw [hq] at hcall
        go_wp2_with (go_at_fn g; refine hcall.mono ?_; rintro e w' ⟨rfl, rfl⟩)
        go_ret
        exact ⟨ret_i (firstI_hit hlt (by rw [HX.out]; exact hq) hA.out).symm, rfl⟩
      | false =>
        rw [hq] at hcall
        go_wp2_with (go_at_fn g; refine hcall.mono ?_; rintro e w' ⟨rfl, rfl⟩)
        go_round
        case rel =>
          refine ⟨k + 1, by omega, by go_num, (show Hid _ from fun j hj => ?_)⟩
          by_cases e : j = k
          · subst e; rw [HX.out]; exact hq
          · exact hA.out j (by omega)
        case measure => simp [intOf]; omega
    · obtain rfl : k = l.length := by omega
      go_wp2
      go_ret
      exact ⟨ret_i (firstI_none hA.out).symm, rfl⟩

set_option maxHeartbeats 400000 in
theorem containsFuncB (g : Nat) (lb : Array Value) (p : Int → Bool) (v : Value) (l : List Int) (w : World) (hv : Bs w v l) (eg : ∀ args w, (callFunc g args).run Try.prog w = .ok (.enter g args) w)
    (hp : ∀ x, 0 ≤ x → x ≤ 255 → Calls Try.prog g (#[.int .u8 x] ++ lb) w fun e w' => e = .returned (.bool (p x)) ∧ w' = w) :
    Calls Try.prog 59 #[v, .func (.func g) #[] lb] w fun e w' => e = .returned (.bool (l.any p)) ∧ w' = w := by
  have hi := indexFuncB g lb p v l w hv eg hp
  have HF : Hid (l.any p = decide (0 ≤ firstI p l)) := any_firstI p l
  generalize firstI p l = i at hi HF
  obtain ⟨ho, a, cap, rfl, -⟩ := hv
  clear hp
  go_enter Try.func59, Try.ntmps59
  go_wp2_with (go_at_call 66; refine hi.mono ?_; rintro e w' ⟨rfl, rfl⟩)
  go_ret
  exact ⟨ret_b HF.out, rfl⟩

end Go.Proofs.Ytodoofdbpffolaa

/- What within, allWithin, nameOk, nameWanted, textOk of package impl do. -/
namespace Go.Proofs.Ytodoofdbpffolaa
open Go.RowKit Go.Shelf
set_option maxRecDepth 100000

theorem textB_len {l : List Int} (h : textB l = true) : l.length ≤ 30 := by unfold textB at h; simp at h; exact h.1

theorem within_any (n lo hi : Int) (w : World) :
    Calls Try.prog 41 #[.int .i64 n, .int .i64 lo, .int .i64 hi] w fun e w' => e = .returned (.bool (inB n lo hi)) ∧ w' = w := by
  by_cases h0 : lo ≤ n
  · by_cases h1 : n ≤ hi
    · go_enter Try.func41, Try.ntmps41
      go_wp2
      go_ret
      exact ⟨ret_b (by simp [inB, h0, h1]), rfl⟩
    · go_enter Try.func41, Try.ntmps41
      go_wp2
      go_ret
      exact ⟨ret_b (by simp [inB, h1]), rfl⟩
  · go_enter Try.func41, Try.ntmps41
    go_wp2
    go_ret
    exact ⟨ret_b (by simp [inB]; omega), rfl⟩

theorem allWithin1_any (x lo hi : Int) (b1 b2 : Nat) (w : World) (c1 : w.cell? ⟨b1, 0, none⟩ = some (.int .u8 lo)) (c2 : w.cell? ⟨b2, 0, none⟩ = some (.int .u8 hi)) :
    Calls Try.prog 60 #[.int .u8 x, .pointer (some ⟨b1, 0, none⟩), .pointer (some ⟨b2, 0, none⟩)] w fun e w' => e = .returned (.bool (decide (x < lo) || decide (hi < x))) ∧ w' = w := by
  by_cases h0 : x < lo
  · go_enter Try.func60, Try.ntmps60
    go_wp2
    go_ret
    exact ⟨ret_b (by simp [h0]), rfl⟩
  · go_enter Try.func60, Try.ntmps60
    go_wp2
    go_ret
    exact ⟨ret_b (by simp; omega), rfl⟩

theorem allIn_any (lo hi : Int) (l : List Int) : (!l.any fun x => decide (x < lo) || decide (hi < x)) = allIn lo hi l := by
  induction l with
  | nil => rfl
  | cons x l ih =>
    simp only [List.any_cons, allIn, List.all_cons, Bool.not_or]
    rw [ih]
    congr 1
    by_cases h0 : x < lo <;> by_cases h1 : hi < x <;> simp [h0, h1] <;> omega

set_option maxHeartbeats 400000 in
theorem allWithin_any (v : Value) (l : List Int) (lo hi : Int) (w : World) (hv : Bs w v l) :
    Calls Try.prog 50 #[v, .int .u8 lo, .int .u8 hi] w fun e w' => e = .returned (.bool (allIn lo hi l)) ∧ Below w.heap.size w w' := by
  have bx := boxes2 w (.cells #[.int .u8 lo] 5) (.cells #[.int .u8 hi] 5)
  have H : Hid (Calls Try.prog 59 #[v, .func (.func 60) #[] #[.pointer (some ⟨w.heap.size, 0, none⟩), .pointer (some ⟨w.heap.size + 1, 0, none⟩)]] ((w.alloc (.cells #[.int .u8 lo] 5)).alloc (.cells #[.int .u8 hi] 5)) fun e w' => e = .returned (.bool (l.any fun x => decide (x < lo) || decide (hi < x))) ∧ w' = (w.alloc (.cells #[.int .u8 lo] 5)).alloc (.cells #[.int .u8 hi] 5)) := by
    refine containsFuncB _ _ _ v l _ (hv.below bx.2.2) (fun args w => by kernel_rfl) fun x _ _ => allWithin1_any x lo hi _ _ _ ?_ ?_
    · rw [cell_of_row _ _ 0 _ _ (0, 0) bx.1]; rfl
    · rw [cell_of_row _ _ 0 _ _ (0, 0) bx.2.1]; rfl
  have HA := allIn_any lo hi l
  have HB : Hid (Below w.heap.size w ((w.alloc (.cells #[.int .u8 lo] 5)).alloc (.cells #[.int .u8 hi] 5))) := bx.2.2
  generalize (l.any fun x => decide (x < lo) || decide (hi < x)) = X at H HA
  have HA' : Hid ((!X) = allIn lo hi l) := HA
  clear HA bx
  obtain ⟨a, n, c, rfl⟩ := hv.form3
  clear hv
  go_enter Try.func50, Try.ntmps50
  go_wp2_with (go_at_call 59; refine H.out.mono ?_; rintro e w' ⟨rfl, rfl⟩)
  go_ret
  exact ⟨ret_b HA'.out.symm, HB.out⟩

set_option maxHeartbeats 400000 in
theorem nameOk_any (v : Value) (l : List Int) (w : World) (hv : Bs w v l) :
    Calls Try.prog 40 #[v] w fun e w' => e = .returned (.bool (nameB l)) ∧ Below w.heap.size w w' := by
  have H : Hid (Bs w v l) := hv
  obtain ⟨ho, a, cap, rfl, hlc, hcm, -⟩ := hv
  unfold maxLen at hcm
  by_cases h0 : 1 ≤ l.length ∧ l.length ≤ 6
  · have e1 : inB (l.length : Int) 1 6 = true := by simp [inB]; omega
    have e2 : Hid (nameB l = allIn 97 122 l) := by simp [Hid, nameB, h0.1, h0.2]
    have hw := within_any (l.length : Int) 1 6
    rw [e1] at hw
    clear e1
    go_enter Try.func40, Try.ntmps40
    go_wp2_with (first | (go_at_call 41; refine (hw _).mono ?_; rintro e w' ⟨rfl, rfl⟩) | (go_at_call 50; refine (allWithin_any _ l 97 122 _ H.out).mono ?_; rintro e w1 ⟨rfl, B⟩))
    go_ret
    exact ⟨ret_b e2.out, B⟩
  · have e1 : inB (l.length : Int) 1 6 = false := by simp [inB]; omega
    have e2 : Hid (nameB l = false) := by
      simp only [Hid, nameB]
      by_cases h1 : 1 ≤ l.length
      · simp [show ¬ l.length ≤ 6 by omega]
      · simp [h1]
    have hw := within_any (l.length : Int) 1 6
    rw [e1] at hw
    clear e1
    go_enter Try.func40, Try.ntmps40
    go_wp2_with (first | (go_at_call 41; refine (hw _).mono ?_; rintro e w' ⟨rfl, rfl⟩))
    go_ret
    exact ⟨ret_b e2.out, Below.refl _ _⟩

set_option maxHeartbeats 400000 in
theorem textOk_any (v : Value) (l : List Int) (w : World) (hv : Bs w v l) :
    Calls Try.prog 51 #[v] w fun e w' => e = .returned (.bool (textB l)) ∧ Below w.heap.size w w' := by
  have H : Hid (Bs w v l) := hv
  obtain ⟨ho, a, cap, rfl, hlc, hcm, -⟩ := hv
  unfold maxLen at hcm
  by_cases h0 : l.length ≤ 30
  · have e2 : Hid (textB l = allIn 32 126 l) := by simp [Hid, textB, h0]
    go_enter Try.func51, Try.ntmps51
    go_wp2_with (first | (go_at_call 50; refine (allWithin_any _ l 32 126 _ H.out).mono ?_; rintro e w1 ⟨rfl, B⟩))
    go_ret
    exact ⟨ret_b e2.out, B⟩
  · have e2 : Hid (textB l = false) := by simp [Hid, textB, h0]
    go_enter Try.func51, Try.ntmps51
    go_wp2
    go_ret
    exact ⟨ret_b e2.out, Below.refl _ _⟩

end Go.Proofs.Ytodoofdbpffolaa

/- What seenOk and mailsOk of package impl do. -/
namespace Go.Proofs.Ytodoofdbpffolaa
open Go.RowKit Go.Shelf
set_option maxRecDepth 100000
set_option linter.unusedVariables false

set_option maxRecDepth 100000 in
set_option maxHeartbeats 1000000 in
theorem mailsOk_any (v : Value) (x : BoxD) (w : World) (hv : BoxV w v x) (hn0 : 1 ≤ x.next) (hn1 : x.next ≤ 1000000) :
    Calls Try.prog 42 #[v] w fun e w' => e = .returned (.bool (mailsB x)) ∧ Below w.heap.size w w' := by
  obtain ⟨u0, u1, u2, rfl, g0, g1, g2, i0, i1, i2, i3⟩ := hv
  have H0 : Hid (∀ wi, Below w.heap.size w wi → Bs wi u0 x.name ∧ MailsV wi u1 x.mails ∧ GonesV wi u2 x.gones) := fun wi h => ⟨g0.below h, g1.below keepsMail h, g2.below keepsGone h⟩
  obtain ⟨a0, n0, c0, rfl⟩ := g0.form3
  obtain ⟨a1, c1, rfl, m0, m1⟩ := g1.form
  obtain ⟨a2, c2, rfl, m2, m3⟩ := g2.form
  clear g0 g1 g2
  have kA := box_new w (.cells #[.slice a0 n0 c0, .int .i64 x.valid, .int .i64 x.next, .int .i64 x.seq, .slice a1 x.mails.length c1, .slice a2 x.gones.length c2, .int .i64 x.lost] 31)
  have X : Below w.heap.size w (w.alloc (.cells #[.slice a0 n0 c0, .int .i64 x.valid, .int .i64 x.next, .int .i64 x.seq, .slice a1 x.mails.length c1, .slice a2 x.gones.length c2, .int .i64 x.lost] 31)) := (Below.refl _ _).alloc (Nat.le_refl _) _
  by_cases h0 : x.mails.length ≤ 12
  · have HS : Hid (mailsB x = (List.range x.mails.length).all (mailAt x)) := by simp [Hid, mailsB, h0]
    have HK : Hid ((w.alloc (.cells #[.slice a0 n0 c0, .int .i64 x.valid, .int .i64 x.next, .int .i64 x.seq, .slice a1 x.mails.length c1, .slice a2 x.gones.length c2, .int .i64 x.lost] 31)).heap[w.heap.size]? = some (.cells #[.slice a0 n0 c0, .int .i64 x.valid, .int .i64 x.next, .int .i64 x.seq, .slice a1 x.mails.length c1, .slice a2 x.gones.length c2, .int .i64 x.lost] 31)) := kA
    have HX : Hid (Below w.heap.size w (w.alloc (.cells #[.slice a0 n0 c0, .int .i64 x.valid, .int .i64 x.next, .int .i64 x.seq, .slice a1 x.mails.length c1, .slice a2 x.gones.length c2, .int .i64 x.lost] 31))) := X
    clear kA X
    go_enter Try.func42, Try.ntmps42
    go_wp2
    go_loopw [3, 5, 13] (fun q _ i wr => ∃ k : Nat, k ≤ x.mails.length ∧ i = .int .i64 k ∧ q = .int .i64 (prevU x.mails k) ∧ Hid (∀ j, j < k → mailAt x j = true) ∧ Hid (wr.heap[w.heap.size]? = some (.cells #[.slice a0 n0 c0, .int .i64 x.valid, .int .i64 x.next, .int .i64 x.seq, .slice a1 x.mails.length c1, .slice a2 x.gones.length c2, .int .i64 x.lost] 31)) ∧ Hid (Below w.heap.size w wr)) (fun _ _ i _ => x.mails.length - (intOf i).toNat)
    case atStart => exact ⟨0, Nat.zero_le _, rfl, rfl, (fun j hj => absurd hj (Nat.not_lt_zero _)), HK, HX⟩
    case round =>
      obtain ⟨k, hk, rfl, rfl, hA, hK, hB⟩ := hrel
      by_cases hlt : k < x.mails.length
      · obtain ⟨m, hm⟩ : ∃ m, x.mails[k]? = some m := ⟨x.mails[k], List.getElem?_eq_getElem hlt⟩
        obtain ⟨b, off, cap', u, hv', hlb, d0, d1, d2, d3, hu, j0, j1, j2⟩ := MailsV.cell (H0.out wr hB.out).2.1 k m hm
        simp only [Value.slice.injEq, true_and] at hv'
        obtain ⟨rfl, rfl⟩ := hv'
        obtain ⟨ua, un, uc, rfl⟩ := hu.form3
        have hp := prevU_ok hn1 hk hA.out
        have HE : Hid (mailAt x k = (inB m.uid (prevU x.mails k + 1) (x.next - 1) && (inB m.flags 0 31 && (inB m.seq 1 x.seq && textB m.text)))) := by simp [Hid, mailAt, hm]
        have HP1 : Hid (prevU x.mails (k + 1) = m.uid) := by simp [Hid, prevU, hm]
        generalize hQ : prevU x.mails k = q at hp HE
        clear hQ hm
        obtain ⟨hp0, hp1⟩ := hp
        obtain ⟨uid, flags, seq, text⟩ := m
        simp only at d0 d1 d2 d3 hu j0 j1 j2 HE HP1
        have c1' := within_any uid (q + 1) (x.next - 1)
        have c2' := within_any flags 0 31
        have c3' := within_any seq 1 x.seq
        generalize inB uid (q + 1) (x.next - 1) = X1 at c1' HE
        generalize inB flags 0 31 = X2 at c2' HE
        generalize inB seq 1 x.seq = X3 at c3' HE
        have ab : Below wr.heap.size wr (wr.alloc (.cells #[.int .i64 uid, .int .i64 flags, .int .i64 seq, .slice ua un uc] 43)) := (Below.refl _ _).alloc (Nat.le_refl _) _
        have c4' := textOk_any _ text _ (hu.below ab)
        generalize textB text = X4 at c4' HE
        have hKA := hK.out
        obtain ⟨e0, e1, e2, e3, e4, e5, e6⟩ := bx7 hKA
        have hlA := lt_of_heap hKA
        have HKm : Hid ((wr.alloc (.cells #[.int .i64 uid, .int .i64 flags, .int .i64 seq, .slice ua un uc] 43)).heap[wr.heap.size]? = some (.cells #[.int .i64 uid, .int .i64 flags, .int .i64 seq, .slice ua un uc] 43)) := box_new wr _
        have HKb : Hid ((wr.alloc (.cells #[.int .i64 uid, .int .i64 flags, .int .i64 seq, .slice ua un uc] 43)).heap[w.heap.size]? = some (.cells #[.slice a0 n0 c0, .int .i64 x.valid, .int .i64 x.next, .int .i64 x.seq, .slice (some ⟨b, off, none⟩) x.mails.length c1, .slice a2 x.gones.length c2, .int .i64 x.lost] 31)) := box_alloc hKA _
        have HB1 : Hid (Below w.heap.size w (wr.alloc (.cells #[.int .i64 uid, .int .i64 flags, .int .i64 seq, .slice ua un uc] 43))) := Below.step hB.out ab
        clear hKA hu ab hK hB
        go_wp2_with fail
        refine (c1' _).mono ?_
        rintro e w' ⟨rfl, rfl⟩
        cases X1 with
        | false =>
          go_wp2
          go_ret
          exact ⟨ret_b (by rw [HS.out]; exact rangeAll_no k hlt HE.out), HB1.out⟩
        | true =>
        go_wp2_with fail
        refine (c2' _).mono ?_
        rintro e w' ⟨rfl, rfl⟩
        cases X2 with
        | false =>
          go_wp2
          go_ret
          exact ⟨ret_b (by rw [HS.out]; exact rangeAll_no k hlt HE.out), HB1.out⟩
        | true =>
        go_wp2_with fail
        refine (c3' _).mono ?_
        rintro e w' ⟨rfl, rfl⟩
        cases X3 with
        | false =>
          go_wp2
          go_ret
          exact ⟨ret_b (by rw [HS.out]; exact rangeAll_no k hlt HE.out), HB1.out⟩
        | true =>
        go_wp2_with fail
        refine c4'.mono ?_
        rintro e w2 ⟨rfl, B⟩
        have HB2 : Hid (Below w.heap.size w w2) := Below.step HB1.out B
        have HKb2 : Hid (w2.heap[w.heap.size]? = some (.cells #[.slice a0 n0 c0, .int .i64 x.valid, .int .i64 x.next, .int .i64 x.seq, .slice (some ⟨b, off, none⟩) x.mails.length c1, .slice a2 x.gones.length c2, .int .i64 x.lost] 31)) := box_below B HKb.out
        obtain ⟨t0, t1, t2, t3⟩ := bx4 (box_below B HKm.out)
        clear B HB1 HKb HKm
        cases X4 with
        | false =>
          go_wp2
          go_ret
          exact ⟨ret_b (by rw [HS.out]; exact rangeAll_no k hlt HE.out), HB2.out⟩
        | true =>
        go_wp2
        go_roundw
        case rel =>
          refine ⟨k + 1, by omega, by go_num, by rw [HP1.out], (show Hid _ from fun j hj => ?_), HKb2, HB2⟩
          by_cases e : j = k
          · subst e; exact HE.out
          · exact hA.out j (by omega)
        case measure => simp [intOf]; omega
      · obtain rfl : k = x.mails.length := by omega
        go_wp2
        go_ret
        exact ⟨ret_b (by rw [HS.out]; exact rangeAll_yes hA.out), hB.out⟩
  · have HS : Hid (mailsB x = false) := by simp [Hid, mailsB, h0]
    go_enter Try.func42, Try.ntmps42
    go_wp2
    go_ret
    exact ⟨ret_b HS.out, X⟩

end Go.Proofs.Ytodoofdbpffolaa

/- What slices.IndexFunc and slices.ContainsFunc of mails and of what went do. -/
namespace Go.Proofs.Ytodoofdbpffolaa
open Go.RowKit Go.Shelf
set_option maxRecDepth 100000
set_option linter.unusedVariables false

theorem firstI_hit' {α : Type} {p : α → Bool} {l : List α} {k : Nat} {x : α} (hk : k < l.length) (hx : l[k]? = some x) (h : p x = true) (hA : ∀ j x, j < k → l[j]? = some x → p x = false) : firstI p l = k := by
  have : l.findIdx? p = some k := by
    rw [List.findIdx?_eq_some_iff_getElem]
    refine ⟨hk, by rw [List.getElem?_eq_getElem hk] at hx; cases hx; exact h, fun j hj => ?_⟩
    rw [hA j _ hj (List.getElem?_eq_getElem (by omega))]; simp
  simp [firstI, this]
theorem firstI_none' {α : Type} {p : α → Bool} {l : List α} (hA : ∀ j x, j < l.length → l[j]? = some x → p x = false) : firstI p l = -1 := by
  have : l.findIdx? p = none := by
    rw [List.findIdx?_eq_none_iff]
    intro x hx
    obtain ⟨j, hj, rfl⟩ := List.getElem_of_mem hx
    exact hA j _ hj (List.getElem?_eq_getElem hj)
  simp [firstI, this]
def GoneV (_ : World) (v : Value) (x : GoneD) : Prop := v = .agg #[.int .i64 x.uid, .int .i64 x.seq]

set_option maxRecDepth 100000 in
set_option maxHeartbeats 1000000 in
theorem indexFuncMail (g : Nat) (lb : Array Value) (p : MailD → Bool) (v : Value) (l : List MailD) (w : World) (hv : MailsV w v l) (eg : ∀ args w, (callFunc g args).run Try.prog w = .ok (.enter g args) w)
    (hp : ∀ wi x u, Below w.heap.size w wi → MailV wi u x → Calls Try.prog g (#[u] ++ lb) wi fun e w' => e = .returned (.bool (p x)) ∧ Below wi.heap.size wi w') :
    Calls Try.prog 61 #[v, .func (.func g) #[] lb] w fun e w' => e = .returned (.int .i64 (firstI p l)) ∧ Below w.heap.size w w' := by
  have HV : Hid (∀ wi, Below w.heap.size w wi → MailsV wi v l) := fun wi h => hv.below keepsMail h
  have HP : Hid (∀ wi x u, Below w.heap.size w wi → MailV wi u x → Calls Try.prog g (#[u] ++ lb) wi fun e w' => e = .returned (.bool (p x)) ∧ Below wi.heap.size wi w') := hp
  obtain ⟨a, cap, rfl, hlc, hcm⟩ := hv.form
  clear hv hp
  go_enter Try.func61, Try.ntmps61
  go_wp2
  go_loopw [5, 8] (fun _ i wr => ∃ k : Nat, k ≤ l.length ∧ i = .int .i64 k ∧ Hid (∀ j x, j < k → l[j]? = some x → p x = false) ∧ Hid (Below w.heap.size w wr)) (fun _ i _ => l.length - (intOf i).toNat)
  case atStart => exact ⟨0, Nat.zero_le _, rfl, (fun j x hj => absurd hj (Nat.not_lt_zero _)), Below.refl _ _⟩
  case round =>
    obtain ⟨k, hk, rfl, hA, hB⟩ := hrel
    by_cases hlt : k < l.length
    · obtain ⟨x, hx⟩ : ∃ x, l[k]? = some x := ⟨l[k], List.getElem?_eq_getElem hlt⟩
      obtain ⟨b, off, cap', u, hv', hlb, d0, d1, d2, d3, hu, i0, i1, i2⟩ := MailsV.cell (HV.out wr hB.out) k x hx
      simp only [Value.slice.injEq, true_and] at hv'
      obtain ⟨rfl, rfl⟩ := hv'
      obtain ⟨ua, un, uc, rfl⟩ := hu.form3
      have hcall := HP.out wr x (.agg #[.int .i64 x.uid, .int .i64 x.flags, .int .i64 x.seq, .slice ua un uc]) hB.out ⟨_, rfl, hu, i0, i1, i2⟩
      have HX : Hid (l[k]? = some x) := hx
      clear hx
      cases hq : p x with
      | true =>
        rw [hq] at hcall
        have HQ : Hid (p x = true) := hq
        clear hq
        go_wp2_with (go_at_fn g; refine hcall.mono ?_; rintro e w1 ⟨rfl, B⟩)
        go_ret
        exact ⟨ret_i (firstI_hit' hlt HX.out HQ.out hA.out).symm, Below.step hB.out B⟩
      | false =>
        rw [hq] at hcall
        have HQ : Hid (p x = false) := hq
        clear hq
        go_wp2_with (go_at_fn g; refine hcall.mono ?_; rintro e w1 ⟨rfl, B⟩)
        have HB2 : Hid (Below w.heap.size w w1) := Below.step hB.out B
        clear B hB
        go_roundw
        case rel =>
          refine ⟨k + 1, by omega, by go_num, (show Hid _ from fun j y hj hy => ?_), HB2⟩
          by_cases e : j = k
          · subst e; rw [HX.out] at hy; cases hy; exact HQ.out
          · exact hA.out j y (by omega) hy
        case measure => simp [intOf]; omega
    · obtain rfl : k = l.length := by omega
      go_wp2
      go_ret
      exact ⟨ret_i (firstI_none' hA.out).symm, hB.out⟩

set_option maxRecDepth 100000 in
set_option maxHeartbeats 1000000 in
theorem containsFuncMail (g : Nat) (lb : Array Value) (p : MailD → Bool) (v : Value) (l : List MailD) (w : World) (hv : MailsV w v l) (eg : ∀ args w, (callFunc g args).run Try.prog w = .ok (.enter g args) w)
    (hp : ∀ wi x u, Below w.heap.size w wi → MailV wi u x → Calls Try.prog g (#[u] ++ lb) wi fun e w' => e = .returned (.bool (p x)) ∧ Below wi.heap.size wi w') :
    Calls Try.prog 52 #[v, .func (.func g) #[] lb] w fun e w' => e = .returned (.bool (l.any p)) ∧ Below w.heap.size w w' := by
  have hi := indexFuncMail g lb p v l w hv eg hp
  have HF : Hid (l.any p = decide (0 ≤ firstI p l)) := any_firstI p l
  generalize firstI p l = i at hi HF
  obtain ⟨a, cap, rfl, -⟩ := hv.form
  clear hp hv
  go_enter Try.func52, Try.ntmps52
  go_wp2_with (go_at_call 61; refine hi.mono ?_; rintro e w1 ⟨rfl, B⟩)
  go_ret
  exact ⟨ret_b HF.out, B⟩

set_option maxRecDepth 100000 in
set_option maxHeartbeats 1000000 in
theorem indexFuncGone (g : Nat) (lb : Array Value) (p : GoneD → Bool) (v : Value) (l : List GoneD) (w : World) (hv : GonesV w v l) (eg : ∀ args w, (callFunc g args).run Try.prog w = .ok (.enter g args) w)
    (hp : ∀ wi x u, Below w.heap.size w wi → GoneV wi u x → Calls Try.prog g (#[u] ++ lb) wi fun e w' => e = .returned (.bool (p x)) ∧ Below wi.heap.size wi w') :
    Calls Try.prog 62 #[v, .func (.func g) #[] lb] w fun e w' => e = .returned (.int .i64 (firstI p l)) ∧ Below w.heap.size w w' := by
  have HV : Hid (∀ wi, Below w.heap.size w wi → GonesV wi v l) := fun wi h => hv.below keepsGone h
  have HP : Hid (∀ wi x u, Below w.heap.size w wi → GoneV wi u x → Calls Try.prog g (#[u] ++ lb) wi fun e w' => e = .returned (.bool (p x)) ∧ Below wi.heap.size wi w') := hp
  obtain ⟨a, cap, rfl, hlc, hcm⟩ := hv.form
  clear hv hp
  go_enter Try.func62, Try.ntmps62
  go_wp2
  go_loopw [5, 8] (fun _ i wr => ∃ k : Nat, k ≤ l.length ∧ i = .int .i64 k ∧ Hid (∀ j x, j < k → l[j]? = some x → p x = false) ∧ Hid (Below w.heap.size w wr)) (fun _ i _ => l.length - (intOf i).toNat)
  case atStart => exact ⟨0, Nat.zero_le _, rfl, (fun j x hj => absurd hj (Nat.not_lt_zero _)), Below.refl _ _⟩
  case round =>
    obtain ⟨k, hk, rfl, hA, hB⟩ := hrel
    by_cases hlt : k < l.length
    · obtain ⟨x, hx⟩ : ∃ x, l[k]? = some x := ⟨l[k], List.getElem?_eq_getElem hlt⟩
      obtain ⟨b, off, cap', hv', hlb, d0, d1, i0, i1⟩ := GonesV.cell (HV.out wr hB.out) k x hx
      simp only [Value.slice.injEq, true_and] at hv'
      obtain ⟨rfl, rfl⟩ := hv'
      have hcall := HP.out wr x (.agg #[.int .i64 x.uid, .int .i64 x.seq]) hB.out rfl
      have HX : Hid (l[k]? = some x) := hx
      clear hx
      cases hq : p x with
      | true =>
        rw [hq] at hcall
        have HQ : Hid (p x = true) := hq
        clear hq
        go_wp2_with (go_at_fn g; refine hcall.mono ?_; rintro e w1 ⟨rfl, B⟩)
        go_ret
        exact ⟨ret_i (firstI_hit' hlt HX.out HQ.out hA.out).symm, Below.step hB.out B⟩
      | false =>
        rw [hq] at hcall
        have HQ : Hid (p x = false) := hq
        clear hq
        go_wp2_with (go_at_fn g; refine hcall.mono ?_; rintro e w1 ⟨rfl, B⟩)
        have HB2 : Hid (Below w.heap.size w w1) := Below.step hB.out B
        clear B hB
        go_roundw
        case rel =>
          refine ⟨k + 1, by omega, by go_num, (show Hid _ from fun j y hj hy => ?_), HB2⟩
          by_cases e : j = k
          · subst e; rw [HX.out] at hy; cases hy; exact HQ.out
          · exact hA.out j y (by omega) hy
        case measure => simp [intOf]; omega
    · obtain rfl : k = l.length := by omega
      go_wp2
      go_ret
      exact ⟨ret_i (firstI_none' hA.out).symm, hB.out⟩

set_option maxRecDepth 100000 in
set_option maxHeartbeats 1000000 in
theorem containsFuncGone (g : Nat) (lb : Array Value) (p : GoneD → Bool) (v : Value) (l : List GoneD) (w : World) (hv : GonesV w v l) (eg : ∀ args w, (callFunc g args).run Try.prog w = .ok (.enter g args) w)
    (hp : ∀ wi x u, Below w.heap.size w wi → GoneV wi u x → Calls Try.prog g (#[u] ++ lb) wi fun e w' => e = .returned (.bool (p x)) ∧ Below wi.heap.size wi w') :
    Calls Try.prog 54 #[v, .func (.func g) #[] lb] w fun e w' => e = .returned (.bool (l.any p)) ∧ Below w.heap.size w w' := by
  have hi := indexFuncGone g lb p v l w hv eg hp
  have HF : Hid (l.any p = decide (0 ≤ firstI p l)) := any_firstI p l
  generalize firstI p l = i at hi HF
  obtain ⟨a, cap, rfl, -⟩ := hv.form
  clear hp hv
  go_enter Try.func54, Try.ntmps54
  go_wp2_with (go_at_call 62; refine hi.mono ?_; rintro e w1 ⟨rfl, B⟩)
  go_ret
  exact ⟨ret_b HF.out, B⟩

end Go.Proofs.Ytodoofdbpffolaa

/- What gonesOk of package impl do. -/
namespace Go.Proofs.Ytodoofdbpffolaa
open Go.RowKit Go.Shelf
set_option maxRecDepth 100000
set_option linter.unusedVariables false

theorem Rd.take {α : Type} {sz : Nat} {E : World → List Value → α → Prop} {w : World} {a : Option Addr} {n cap : Nat} {l : List α} (h : Rd sz E w (.slice a n cap) l) (k : Nat) (hk : k ≤ l.length) : Rd sz E w (.slice a k cap) (l.take k) := by
  obtain ⟨a', cap', cs, hv, h1, h2, h3, h4, h5⟩ := h
  simp only [Value.slice.injEq] at hv
  obtain ⟨rfl, -, rfl⟩ := hv
  have hl : (l.take k).length = k := by simp; omega
  refine ⟨a, cap, cs, by rw [hl], by rw [hl]; omega, h2, h3, fun i x hx => ?_, fun hp => ?_⟩
  · rw [List.getElem?_take] at hx
    split at hx
    · exact h4 i x hx
    · cases hx
  · rw [hl] at hp
    obtain ⟨b, off, ha, hlt, hc⟩ := h5 (by omega)
    exact ⟨b, off, ha, hlt, fun i j u hi hu => hc i j u (by rw [hl] at hi; omega) hu⟩

set_option maxRecDepth 100000 in
set_option maxHeartbeats 1000000 in
theorem gonesOk1_any (u : Value) (m : MailD) (bg : Nat) (guid : Int) (w : World) (hu : MailV w u m) (hc : w.cell? ⟨bg, 0, none⟩ = some (.int .i64 guid)) (hb : bg < w.heap.size) :
    Calls Try.prog 53 #[u, .pointer (some ⟨bg, 0, none⟩)] w fun e w' => e = .returned (.bool (decide (m.uid = guid))) ∧ Below w.heap.size w w' := by
  obtain ⟨u, rfl, h, -⟩ := hu
  obtain ⟨ua, un, uc, rfl⟩ := h.form3
  clear h
  obtain ⟨uid, flags, seq, text⟩ := m
  simp only
  go_enter Try.func53, Try.ntmps53
  go_wp2
  go_ret
  exact ⟨ret_b (by rw [Bool.eq_iff_iff]; simp), (Below.refl _ _).alloc (Nat.le_refl _) _⟩

set_option maxRecDepth 100000 in
set_option maxHeartbeats 1000000 in
theorem gonesOk2_any (u : Value) (m : GoneD) (bg : Nat) (guid : Int) (w : World) (hu : GoneV w u m) (hc : w.cell? ⟨bg, 0, none⟩ = some (.int .i64 guid)) (hb : bg < w.heap.size) :
    Calls Try.prog 55 #[u, .pointer (some ⟨bg, 0, none⟩)] w fun e w' => e = .returned (.bool (decide (m.uid = guid))) ∧ Below w.heap.size w w' := by
  unfold GoneV at hu
  subst hu
  obtain ⟨uid, seq⟩ := m
  simp only
  go_enter Try.func55, Try.ntmps55
  go_wp2
  go_ret
  exact ⟨ret_b (by rw [Bool.eq_iff_iff]; simp), (Below.refl _ _).alloc (Nat.le_refl _) _⟩

set_option maxRecDepth 100000 in
set_option maxHeartbeats 1000000 in
theorem gonesOk_any (v : Value) (x : BoxD) (w : World) (hv : BoxV w v x) (hn0 : 1 ≤ x.next) (hn1 : x.next ≤ 1000000) :
    Calls Try.prog 43 #[v] w fun e w' => e = .returned (.bool (gonesB x)) ∧ Below w.heap.size w w' := by
  obtain ⟨u0, u1, u2, rfl, g0, g1, g2, i0, i1, i2, i3⟩ := hv
  have H0 : Hid (∀ wi, Below w.heap.size w wi → Bs wi u0 x.name ∧ MailsV wi u1 x.mails ∧ GonesV wi u2 x.gones) := fun wi h => ⟨g0.below h, g1.below keepsMail h, g2.below keepsGone h⟩
  obtain ⟨a0, n0, c0, rfl⟩ := g0.form3
  obtain ⟨a1, c1, rfl, m0, m1⟩ := g1.form
  obtain ⟨a2, c2, rfl, m2, m3⟩ := g2.form
  clear g0 g1 g2
  have kA := box_new w (.cells #[.slice a0 n0 c0, .int .i64 x.valid, .int .i64 x.next, .int .i64 x.seq, .slice a1 x.mails.length c1, .slice a2 x.gones.length c2, .int .i64 x.lost] 31)
  have X : Below w.heap.size w (w.alloc (.cells #[.slice a0 n0 c0, .int .i64 x.valid, .int .i64 x.next, .int .i64 x.seq, .slice a1 x.mails.length c1, .slice a2 x.gones.length c2, .int .i64 x.lost] 31)) := (Below.refl _ _).alloc (Nat.le_refl _) _
  by_cases h0 : x.gones.length ≤ 40
  · have HS : Hid (gonesB x = (List.range x.gones.length).all (goneAt x)) := by simp [Hid, gonesB, h0]
    have HK : Hid ((w.alloc (.cells #[.slice a0 n0 c0, .int .i64 x.valid, .int .i64 x.next, .int .i64 x.seq, .slice a1 x.mails.length c1, .slice a2 x.gones.length c2, .int .i64 x.lost] 31)).heap[w.heap.size]? = some (.cells #[.slice a0 n0 c0, .int .i64 x.valid, .int .i64 x.next, .int .i64 x.seq, .slice a1 x.mails.length c1, .slice a2 x.gones.length c2, .int .i64 x.lost] 31)) := kA
    have HX : Hid (Below w.heap.size w (w.alloc (.cells #[.slice a0 n0 c0, .int .i64 x.valid, .int .i64 x.next, .int .i64 x.seq, .slice a1 x.mails.length c1, .slice a2 x.gones.length c2, .int .i64 x.lost] 31))) := X
    clear kA X
    by_cases hml : 1 < x.lost
    · have hml0 : Hid True := trivial
      go_enter Try.func43, Try.ntmps43
      go_wp2
      go_loopw [3, 4, 5, 16] (fun q _ _ i wr => ∃ k : Nat, k ≤ x.gones.length ∧ i = .int .i64 k ∧ q = .int .i64 (minS x k) ∧ Hid (∀ j, j < k → goneAt x j = true) ∧ Hid (wr.heap[w.heap.size]? = some (.cells #[.slice a0 n0 c0, .int .i64 x.valid, .int .i64 x.next, .int .i64 x.seq, .slice a1 x.mails.length c1, .slice a2 x.gones.length c2, .int .i64 x.lost] 31)) ∧ Hid (Below w.heap.size w wr)) (fun _ _ _ i _ => x.gones.length - (intOf i).toNat)
      case atStart => exact ⟨0, Nat.zero_le _, rfl, by simp [minS] <;> omega, (fun j hj => absurd hj (Nat.not_lt_zero _)), HK, HX⟩
      case round =>
        obtain ⟨k, hk, rfl, rfl, hA, hK, hB⟩ := hrel
        by_cases hlt : k < x.gones.length
        · obtain ⟨m, hm⟩ : ∃ m, x.gones[k]? = some m := ⟨x.gones[k], List.getElem?_eq_getElem hlt⟩
          obtain ⟨b, off, cap', hv', hlb, d0, d1, j0, j1⟩ := GonesV.cell (H0.out wr hB.out).2.2 k m hm
          simp only [Value.slice.injEq, true_and] at hv'
          obtain ⟨rfl, rfl⟩ := hv'
          have HE : Hid (goneAt x k = (inB m.uid 1 (x.next - 1) && (inB m.seq (minS x k) x.seq && (!(x.mails.any fun o => decide (o.uid = m.uid)) && !((x.gones.take k).any fun o => decide (o.uid = m.uid)))))) := by simp [Hid, goneAt, hm]
          have HP1 : Hid (minS x (k + 1) = m.seq) := by simp [Hid, minS, hm]
          generalize hQ : minS x k = q at HE
          clear hQ hm
          obtain ⟨uid, seq⟩ := m
          simp only at d0 d1 j0 j1 HE HP1
          have c1' := within_any uid 1 (x.next - 1)
          have c2' := within_any seq q x.seq
          generalize inB uid 1 (x.next - 1) = X1 at c1' HE
          generalize inB seq q x.seq = X2 at c2' HE
          have HKg : Hid ((wr.alloc (.cells #[.int .i64 uid, .int .i64 seq] 53)).heap[wr.heap.size]? = some (.cells #[.int .i64 uid, .int .i64 seq] 53)) := box_new wr _
          have HKb : Hid ((wr.alloc (.cells #[.int .i64 uid, .int .i64 seq] 53)).heap[w.heap.size]? = some (.cells #[.slice a0 n0 c0, .int .i64 x.valid, .int .i64 x.next, .int .i64 x.seq, .slice a1 x.mails.length c1, .slice (some ⟨b, off, none⟩) x.gones.length c2, .int .i64 x.lost] 31)) := box_alloc hK.out _
          have HB1 : Hid (Below w.heap.size w (wr.alloc (.cells #[.int .i64 uid, .int .i64 seq] 53))) := Below.step hB.out ((Below.refl _ _).alloc (Nat.le_refl _) _)
          have c3' := containsFuncMail 53 #[.pointer (some ⟨wr.heap.size, 0, none⟩)] (fun o => decide (o.uid = uid)) _ x.mails _ (H0.out _ HB1.out).2.1 (fun args w => by kernel_rfl) (fun wi o u hbi hu => gonesOk1_any u o wr.heap.size uid wi hu (bx2 (box_below hbi HKg.out)).1 (lt_of_heap (box_below hbi HKg.out)))
          have HC4 : Hid (∀ wi, Below (wr.alloc (.cells #[.int .i64 uid, .int .i64 seq] 53)).heap.size (wr.alloc (.cells #[.int .i64 uid, .int .i64 seq] 53)) wi → Calls Try.prog 54 #[.slice (some ⟨b, off, none⟩) k c2, .func (.func 55) #[] #[.pointer (some ⟨wr.heap.size, 0, none⟩)]] wi fun e w' => e = .returned (.bool ((x.gones.take k).any fun o => decide (o.uid = uid))) ∧ Below wi.heap.size wi w') := fun wi hbi =>
            containsFuncGone 55 #[.pointer (some ⟨wr.heap.size, 0, none⟩)] (fun o => decide (o.uid = uid)) _ (x.gones.take k) _ (((H0.out _ (Below.step HB1.out hbi)).2.2).take k hk) (fun args w => by kernel_rfl) (fun wj o u hbj hu => gonesOk2_any u o wr.heap.size uid wj hu (bx2 (box_below hbj (box_below hbi HKg.out))).1 (lt_of_heap (box_below hbj (box_below hbi HKg.out))))
          generalize (x.mails.any fun o => decide (o.uid = uid)) = X3 at c3' HE
          generalize ((x.gones.take k).any fun o => decide (o.uid = uid)) = X4 at HC4 HE
          obtain ⟨e0, e1, e2, e3, e4, e5, e6⟩ := bx7 hK.out
          have hlA := lt_of_heap hK.out
          clear hK hB
          go_wp2_with fail
          refine (c1' _).mono ?_
          rintro e w' ⟨rfl, rfl⟩
          cases X1 with
          | false =>
            go_wp2
            go_ret
            exact ⟨ret_b (by rw [HS.out]; exact rangeAll_no k hlt HE.out), HB1.out⟩
          | true =>
          go_wp2_with fail
          refine (c2' _).mono ?_
          rintro e w' ⟨rfl, rfl⟩
          cases X2 with
          | false =>
            go_wp2
            go_ret
            exact ⟨ret_b (by rw [HS.out]; exact rangeAll_no k hlt HE.out), HB1.out⟩
          | true =>
          go_wp2_with fail
          refine c3'.mono ?_
          rintro e w2 ⟨rfl, B⟩
          have HB2 : Hid (Below w.heap.size w w2) := Below.step HB1.out B
          have HKb2 : Hid (w2.heap[w.heap.size]? = some (.cells #[.slice a0 n0 c0, .int .i64 x.valid, .int .i64 x.next, .int .i64 x.seq, .slice a1 x.mails.length c1, .slice (some ⟨b, off, none⟩) x.gones.length c2, .int .i64 x.lost] 31)) := box_below B HKb.out
          have HKg2 : Hid (w2.heap[wr.heap.size]? = some (.cells #[.int .i64 uid, .int .i64 seq] 53)) := box_below B HKg.out
          have c4' := HC4.out w2 B
          obtain ⟨t0, t1⟩ := bx2 HKg2.out
          obtain ⟨s0, s1, s2, s3, s4, s5, s6⟩ := bx7 HKb2.out
          clear B HB1 HKb HKg HC4 e0 e1 e2 e3 e4 e5 e6
          cases X3 with
          | true =>
            go_wp2
            go_ret
            exact ⟨ret_b (by rw [HS.out]; exact rangeAll_no k hlt HE.out), HB2.out⟩
          | false =>
          go_wp2_with fail
          refine c4'.mono ?_
          rintro e w3 ⟨rfl, B⟩
          have HB3 : Hid (Below w.heap.size w w3) := Below.step HB2.out B
          have HKb3 : Hid (w3.heap[w.heap.size]? = some (.cells #[.slice a0 n0 c0, .int .i64 x.valid, .int .i64 x.next, .int .i64 x.seq, .slice a1 x.mails.length c1, .slice (some ⟨b, off, none⟩) x.gones.length c2, .int .i64 x.lost] 31)) := box_below B HKb2.out
          clear t0 t1 s0 s1 s2 s3 s4 s5 s6
          obtain ⟨t0, t1⟩ := bx2 (box_below B HKg2.out)
          clear B HB2 HKb2 HKg2
          cases X4 with
          | true =>
            go_wp2
            go_ret
            exact ⟨ret_b (by rw [HS.out]; exact rangeAll_no k hlt HE.out), HB3.out⟩
          | false =>
          go_wp2
          go_roundw
          case rel =>
            refine ⟨k + 1, by omega, by go_num, by rw [HP1.out], (show Hid _ from fun j hj => ?_), HKb3, HB3⟩
            by_cases e : j = k
            · subst e; exact HE.out
            · exact hA.out j (by omega)
          case measure => simp [intOf]; omega
        · obtain rfl : k = x.gones.length := by omega
          go_wp2
          go_ret
          exact ⟨ret_b (by rw [HS.out]; exact rangeAll_yes hA.out), hB.out⟩
    · have hml' : x.lost ≤ 1 := by omega
      clear hml
      go_enter Try.func43, Try.ntmps43
      go_wp2
      go_loopw [3, 4, 5, 16] (fun q _ _ i wr => ∃ k : Nat, k ≤ x.gones.length ∧ i = .int .i64 k ∧ q = .int .i64 (minS x k) ∧ Hid (∀ j, j < k → goneAt x j = true) ∧ Hid (wr.heap[w.heap.size]? = some (.cells #[.slice a0 n0 c0, .int .i64 x.valid, .int .i64 x.next, .int .i64 x.seq, .slice a1 x.mails.length c1, .slice a2 x.gones.length c2, .int .i64 x.lost] 31)) ∧ Hid (Below w.heap.size w wr)) (fun _ _ _ i _ => x.gones.length - (intOf i).toNat)
      case atStart => exact ⟨0, Nat.zero_le _, rfl, by simp [minS] <;> omega, (fun j hj => absurd hj (Nat.not_lt_zero _)), HK, HX⟩
      case round =>
        obtain ⟨k, hk, rfl, rfl, hA, hK, hB⟩ := hrel
        by_cases hlt : k < x.gones.length
        · obtain ⟨m, hm⟩ : ∃ m, x.gones[k]? = some m := ⟨x.gones[k], List.getElem?_eq_getElem hlt⟩
          obtain ⟨b, off, cap', hv', hlb, d0, d1, j0, j1⟩ := GonesV.cell (H0.out wr hB.out).2.2 k m hm
          simp only [Value.slice.injEq, true_and] at hv'
          obtain ⟨rfl, rfl⟩ := hv'
          have HE : Hid (goneAt x k = (inB m.uid 1 (x.next - 1) && (inB m.seq (minS x k) x.seq && (!(x.mails.any fun o => decide (o.uid = m.uid)) && !((x.gones.take k).any fun o => decide (o.uid = m.uid)))))) := by simp [Hid, goneAt, hm]
          have HP1 : Hid (minS x (k + 1) = m.seq) := by simp [Hid, minS, hm]
          generalize hQ : minS x k = q at HE
          clear hQ hm
          obtain ⟨uid, seq⟩ := m
          simp only at d0 d1 j0 j1 HE HP1
          have c1' := within_any uid 1 (x.next - 1)
          have c2' := within_any seq q x.seq
          generalize inB uid 1 (x.next - 1) = X1 at c1' HE
          generalize inB seq q x.seq = X2 at c2' HE
          have HKg : Hid ((wr.alloc (.cells #[.int .i64 uid, .int .i64 seq] 53)).heap[wr.heap.size]? = some (.cells #[.int .i64 uid, .int .i64 seq] 53)) := box_new wr _
          have HKb : Hid ((wr.alloc (.cells #[.int .i64 uid, .int .i64 seq] 53)).heap[w.heap.size]? = some (.cells #[.slice a0 n0 c0, .int .i64 x.valid, .int .i64 x.next, .int .i64 x.seq, .slice a1 x.mails.length c1, .slice (some ⟨b, off, none⟩) x.gones.length c2, .int .i64 x.lost] 31)) := box_alloc hK.out _
          have HB1 : Hid (Below w.heap.size w (wr.alloc (.cells #[.int .i64 uid, .int .i64 seq] 53))) := Below.step hB.out ((Below.refl _ _).alloc (Nat.le_refl _) _)
          have c3' := containsFuncMail 53 #[.pointer (some ⟨wr.heap.size, 0, none⟩)] (fun o => decide (o.uid = uid)) _ x.mails _ (H0.out _ HB1.out).2.1 (fun args w => by kernel_rfl) (fun wi o u hbi hu => gonesOk1_any u o wr.heap.size uid wi hu (bx2 (box_below hbi HKg.out)).1 (lt_of_heap (box_below hbi HKg.out)))
          have HC4 : Hid (∀ wi, Below (wr.alloc (.cells #[.int .i64 uid, .int .i64 seq] 53)).heap.size (wr.alloc (.cells #[.int .i64 uid, .int .i64 seq] 53)) wi → Calls Try.prog 54 #[.slice (some ⟨b, off, none⟩) k c2, .func (.func 55) #[] #[.pointer (some ⟨wr.heap.size, 0, none⟩)]] wi fun e w' => e = .returned (.bool ((x.gones.take k).any fun o => decide (o.uid = uid))) ∧ Below wi.heap.size wi w') := fun wi hbi =>
            containsFuncGone 55 #[.pointer (some ⟨wr.heap.size, 0, none⟩)] (fun o => decide (o.uid = uid)) _ (x.gones.take k) _ (((H0.out _ (Below.step HB1.out hbi)).2.2).take k hk) (fun args w => by kernel_rfl) (fun wj o u hbj hu => gonesOk2_any u o wr.heap.size uid wj hu (bx2 (box_below hbj (box_below hbi HKg.out))).1 (lt_of_heap (box_below hbj (box_below hbi HKg.out))))
          generalize (x.mails.any fun o => decide (o.uid = uid)) = X3 at c3' HE
          generalize ((x.gones.take k).any fun o => decide (o.uid = uid)) = X4 at HC4 HE
          obtain ⟨e0, e1, e2, e3, e4, e5, e6⟩ := bx7 hK.out
          have hlA := lt_of_heap hK.out
          clear hK hB
          go_wp2_with fail
          refine (c1' _).mono ?_
          rintro e w' ⟨rfl, rfl⟩
          cases X1 with
          | false =>
            go_wp2
            go_ret
            exact ⟨ret_b (by rw [HS.out]; exact rangeAll_no k hlt HE.out), HB1.out⟩
          | true =>
          go_wp2_with fail
          refine (c2' _).mono ?_
          rintro e w' ⟨rfl, rfl⟩
          cases X2 with
          | false =>
            go_wp2
            go_ret
            exact ⟨ret_b (by rw [HS.out]; exact rangeAll_no k hlt HE.out), HB1.out⟩
          | true =>
          go_wp2_with fail
          refine c3'.mono ?_
          rintro e w2 ⟨rfl, B⟩
          have HB2 : Hid (Below w.heap.size w w2) := Below.step HB1.out B
          have HKb2 : Hid (w2.heap[w.heap.size]? = some (.cells #[.slice a0 n0 c0, .int .i64 x.valid, .int .i64 x.next, .int .i64 x.seq, .slice a1 x.mails.length c1, .slice (some ⟨b, off, none⟩) x.gones.length c2, .int .i64 x.lost] 31)) := box_below B HKb.out
          have HKg2 : Hid (w2.heap[wr.heap.size]? = some (.cells #[.int .i64 uid, .int .i64 seq] 53)) := box_below B HKg.out
          have c4' := HC4.out w2 B
          obtain ⟨t0, t1⟩ := bx2 HKg2.out
          obtain ⟨s0, s1, s2, s3, s4, s5, s6⟩ := bx7 HKb2.out
          clear B HB1 HKb HKg HC4 e0 e1 e2 e3 e4 e5 e6
          cases X3 with
          | true =>
            go_wp2
            go_ret
            exact ⟨ret_b (by rw [HS.out]; exact rangeAll_no k hlt HE.out), HB2.out⟩
          | false =>
          go_wp2_with fail
          refine c4'.mono ?_
          rintro e w3 ⟨rfl, B⟩
          have HB3 : Hid (Below w.heap.size w w3) := Below.step HB2.out B
          have HKb3 : Hid (w3.heap[w.heap.size]? = some (.cells #[.slice a0 n0 c0, .int .i64 x.valid, .int .i64 x.next, .int .i64 x.seq, .slice a1 x.mails.length c1, .slice (some ⟨b, off, none⟩) x.gones.length c2, .int .i64 x.lost] 31)) := box_below B HKb2.out
          clear t0 t1 s0 s1 s2 s3 s4 s5 s6
          obtain ⟨t0, t1⟩ := bx2 (box_below B HKg2.out)
          clear B HB2 HKb2 HKg2
          cases X4 with
          | true =>
            go_wp2
            go_ret
            exact ⟨ret_b (by rw [HS.out]; exact rangeAll_no k hlt HE.out), HB3.out⟩
          | false =>
          go_wp2
          go_roundw
          case rel =>
            refine ⟨k + 1, by omega, by go_num, by rw [HP1.out], (show Hid _ from fun j hj => ?_), HKb3, HB3⟩
            by_cases e : j = k
            · subst e; exact HE.out
            · exact hA.out j (by omega)
          case measure => simp [intOf]; omega
        · obtain rfl : k = x.gones.length := by omega
          go_wp2
          go_ret
          exact ⟨ret_b (by rw [HS.out]; exact rangeAll_yes hA.out), hB.out⟩
  · have HS : Hid (gonesB x = false) := by simp [Hid, gonesB, h0]
    go_enter Try.func43, Try.ntmps43
    go_wp2
    go_ret
    exact ⟨ret_b HS.out, X⟩

end Go.Proofs.Ytodoofdbpffolaa

/- What boxOk of package impl do. -/
namespace Go.Proofs.Ytodoofdbpffolaa
open Go.RowKit Go.Shelf
set_option maxRecDepth 100000
set_option linter.unusedVariables false

set_option maxRecDepth 100000 in
set_option maxHeartbeats 1000000 in
theorem boxOk_any (v : Value) (x : BoxD) (mv : Int) (w : World) (hv : BoxV w v x) :
    Calls Try.prog 21 #[v, .int .i64 mv] w fun e w' => e = .returned (.bool (boxB x mv)) ∧ Below w.heap.size w w' := by
  have HV : Hid (∀ wi, Below w.heap.size w wi → BoxV wi v x) := fun wi h => hv.below h
  obtain ⟨u0, u1, u2, rfl, g0, g1, g2, i0, i1, i2, i3⟩ := hv
  have H0 : Hid (∀ wi, Below w.heap.size w wi → Bs wi u0 x.name ∧ MailsV wi u1 x.mails ∧ GonesV wi u2 x.gones) := fun wi h => ⟨g0.below h, g1.below keepsMail h, g2.below keepsGone h⟩
  obtain ⟨a0, n0, c0, rfl⟩ := g0.form3
  obtain ⟨a1, c1, rfl, m0, m1⟩ := g1.form
  obtain ⟨a2, c2, rfl, m2, m3⟩ := g2.form
  have kA := box_new w (.cells #[.slice a0 n0 c0, .int .i64 x.valid, .int .i64 x.next, .int .i64 x.seq, .slice a1 x.mails.length c1, .slice a2 x.gones.length c2, .int .i64 x.lost] 31)
  have X : Below w.heap.size w (w.alloc (.cells #[.slice a0 n0 c0, .int .i64 x.valid, .int .i64 x.next, .int .i64 x.seq, .slice a1 x.mails.length c1, .slice a2 x.gones.length c2, .int .i64 x.lost] 31)) := (Below.refl _ _).alloc (Nat.le_refl _) _
  clear g0 g1 g2
  have HC : Hid (boxB x mv = (nameB x.name && (inB x.valid 1 mv && (inB x.next 1 1000000 && (inB x.seq 0 1000000 && (inB x.lost 0 x.seq && (mailsB x && gonesB x))))))) := rfl
  have HN : Hid (inB x.next 1 1000000 = true → 1 ≤ x.next ∧ x.next ≤ 1000000) := by intro h; simp [inB] at h; exact h
  have hy1 := fun wi (h : Bs wi (.slice a0 n0 c0) x.name) => nameOk_any _ x.name wi h
  have hy2 := within_any x.valid 1 mv
  have hy3 := within_any x.next 1 1000000
  have hy4 := within_any x.seq 0 1000000
  have hy5 := within_any x.lost 0 x.seq
  have hy6 := fun wi (h : BoxV wi (.agg #[.slice a0 n0 c0, .int .i64 x.valid, .int .i64 x.next, .int .i64 x.seq, .slice a1 x.mails.length c1, .slice a2 x.gones.length c2, .int .i64 x.lost]) x) h1 h2 => mailsOk_any _ x wi h h1 h2
  have hy7 := fun wi (h : BoxV wi (.agg #[.slice a0 n0 c0, .int .i64 x.valid, .int .i64 x.next, .int .i64 x.seq, .slice a1 x.mails.length c1, .slice a2 x.gones.length c2, .int .i64 x.lost]) x) h1 h2 => gonesOk_any _ x wi h h1 h2
  generalize nameB x.name = X1 at HC hy1
  generalize inB x.valid 1 mv = X2 at HC hy2
  generalize inB x.next 1 1000000 = X3 at HC hy3 HN
  generalize inB x.seq 0 1000000 = X4 at HC hy4
  generalize inB x.lost 0 x.seq = X5 at HC hy5
  generalize mailsB x = X6 at HC hy6
  generalize gonesB x = X7 at HC hy7
  go_enter Try.func21, Try.ntmps21
  go_wp2_with fail
  refine (hy1 _ (H0.out _ X).1).mono ?_
  rintro e w1 ⟨rfl, B⟩
  replace kA := box_below B kA
  replace X := Below.step X B
  clear B hy1
  obtain ⟨f0, f1, f2, f3, f4, f5, f6⟩ := bx7 kA
  cases X1 with
  | false =>
    go_wp2
    go_ret
    exact ⟨ret_b HC.out, X⟩
  | true =>
  go_wp2_with fail
  refine (hy2 _).mono ?_
  rintro e w' ⟨rfl, rfl⟩
  cases X2 with
  | false =>
    go_wp2
    go_ret
    exact ⟨ret_b HC.out, X⟩
  | true =>
  go_wp2_with fail
  refine (hy3 _).mono ?_
  rintro e w' ⟨rfl, rfl⟩
  cases X3 with
  | false =>
    go_wp2
    go_ret
    exact ⟨ret_b HC.out, X⟩
  | true =>
  obtain ⟨hn0, hn1⟩ := HN.out rfl
  go_wp2_with fail
  refine (hy4 _).mono ?_
  rintro e w' ⟨rfl, rfl⟩
  cases X4 with
  | false =>
    go_wp2
    go_ret
    exact ⟨ret_b HC.out, X⟩
  | true =>
  go_wp2_with fail
  refine (hy5 _).mono ?_
  rintro e w' ⟨rfl, rfl⟩
  cases X5 with
  | false =>
    go_wp2
    go_ret
    exact ⟨ret_b HC.out, X⟩
  | true =>
  go_wp2_with fail
  refine (hy6 _ (HV.out _ X) hn0 hn1).mono ?_
  rintro e w2 ⟨rfl, B⟩
  replace kA := box_below B kA
  replace X := Below.step X B
  clear B hy6 f0 f1 f2 f3 f4 f5 f6
  obtain ⟨f0, f1, f2, f3, f4, f5, f6⟩ := bx7 kA
  cases X6 with
  | false =>
    go_wp2
    go_ret
    exact ⟨ret_b HC.out, X⟩
  | true =>
  go_wp2_with fail
  refine (hy7 _ (HV.out _ X) hn0 hn1).mono ?_
  rintro e w3 ⟨rfl, B⟩
  replace X := Below.step X B
  go_wp2
  go_ret
  exact ⟨ret_b HC.out, X⟩

end Go.Proofs.Ytodoofdbpffolaa

/- A whole list put behind an empty one of the call's own: what comes back owns the copied cells. -/
namespace Go.Proofs.Ytodoofdbpffolaa
open Go.RowKit

theorem flatC_len {cs : Nat → List Value} {sz : Nat} : ∀ (n : Nat), (∀ i, i < n → (cs i).length = sz) → ((List.range n).flatMap cs).length = n * sz
  | 0, _ => by simp
  | n + 1, h => by
    rw [List.range_succ, List.flatMap_append, List.length_append, flatC_len n (fun i hi => h i (by omega))]
    simp only [List.flatMap_cons, List.flatMap_nil, List.append_nil, h n (by omega), Nat.add_mul, Nat.one_mul]
theorem flatC_get {cs : Nat → List Value} {sz : Nat} : ∀ (n : Nat), (∀ i, i < n → (cs i).length = sz) → ∀ i j, i < n → j < sz → ((List.range n).flatMap cs)[i * sz + j]? = (cs i)[j]?
  | 0, _, _, _, h, _ => absurd h (Nat.not_lt_zero _)
  | n + 1, h, i, j, hi, hj => by
    have hl := flatC_len n (cs := cs) (sz := sz) (fun i hi => h i (by omega))
    rw [List.range_succ, List.flatMap_append]
    by_cases e : i = n
    · subst e
      rw [List.getElem?_append_right (by omega), hl]
      simp only [List.flatMap_cons, List.flatMap_nil, List.append_nil]
      congr 1
      omega
    · have hb : i * sz + j < n * sz := by
        have := Nat.mul_le_mul_right sz (show i + 1 ≤ n by omega)
        rw [Nat.add_mul, Nat.one_mul] at this
        omega
      rw [List.getElem?_append_left (by omega)]
      exact flatC_get n (fun i hi => h i (by omega)) i j (by omega) hj

section
variable {α : Type} {P : Program} {w : World} {e t : TypeId} {sz bytes B : Nat} {RE : World → List Value → α → Prop} {v u : Value} {m : List α}
theorem run_cat (h : w.ownsRow B e sz v 0 []) (hu : Rd sz RE w u m) (hone : ∀ c x, RE w c x → ∀ y ∈ c, y.oneCell' = true) (ty : TypeId) {i : TypeInfo} {z : Value} (ht : P.underlying t = some (.slice e)) (hi : P.info? e = some i) (hz : i.zero = some z) (hsize : i.size = sz) (hby : i.bytes = bytes) (hzs : z.cells.size = sz) (hsz : 0 < sz)
    (hl : m.length ≤ maxLen) (hb : m.length * bytes ≤ 140737488355328) (hB : B ≤ w.heap.size) :
    ∃ v' w' xs, (Builtin.append_ #[t, t] ty #[v, u]).run P w = .ok v' w' ∧ w'.ownsRow B e sz v' m.length xs ∧ (∀ i x, m[i]? = some x → ∃ c, c.length = sz ∧ RE w c x ∧ ∀ j y, c[j]? = some y → xs[i * sz + j]? = some y) ∧ w.grownBy w' v.ownBlock ∧ (v'.ownBlock = v.ownBlock ∨ v'.ownBlock = some w.heap.size) := by
  obtain ⟨a, cap, cs, rfl, h1, h2, h3, h4, h5⟩ := hu
  cases a with
  | none =>
    have hc := h3 rfl
    have hm : m = [] := List.eq_nil_of_length_eq_zero (by omega)
    subst hm
    subst hc
    exact ⟨v, w, [], run_append_owned_none (P := P) (w := w) B t ty e i sz ht hi v 0 [] h, h, by simp, World.grownBy.refl _ _, .inl rfl⟩
  | some ad =>
    have hlen : ∀ i, i < m.length → (cs i).length = sz := fun i hi => (h4 i m[i] (List.getElem?_eq_getElem hi)).2
    have hfl := flatC_len m.length hlen
    have hnews : ∀ k y, ((List.range m.length).flatMap cs)[k]? = some y → w.cell? (ad.add k) = some y := by
      intro k y hk
      have hk2 : k < m.length * sz := by have := (List.getElem?_eq_some_iff.1 hk).1; omega
      have hd : k = k / sz * sz + k % sz := by have := Nat.div_add_mod k sz; rw [Nat.mul_comm]; omega
      have hi1 : k / sz < m.length := Nat.div_lt_of_lt_mul (by rw [Nat.mul_comm]; exact hk2)
      have hj1 : k % sz < sz := Nat.mod_lt _ hsz
      have hk3 := hk
      rw [hd, flatC_get m.length hlen _ _ hi1 hj1] at hk3
      obtain ⟨b, off, hab, -, hcell⟩ := h5 (Nat.lt_of_le_of_lt (Nat.zero_le _) hi1)
      cases hab
      have := hcell _ _ _ hi1 hk3
      rw [Addr.add_lit]
      rw [Nat.add_assoc, ← hd] at this
      exact this
    have hones : ∀ y ∈ (List.range m.length).flatMap cs, y.oneCell' = true := by
      intro y hy
      obtain ⟨i, hi', hy⟩ := List.mem_flatMap.1 hy
      have hil : i < m.length := by simpa using hi'
      exact hone _ _ (h4 i m[i] (List.getElem?_eq_getElem hil)).1 y hy
    obtain ⟨v', w', hr, k2, k3, k4, k5⟩ := run_append_own_at (P := P) w B t ty e i z sz bytes ht hi hz hsize hby hzs hsz v 0 [] h ad m.length cap ((List.range m.length).flatMap cs) hfl hnews hones (by omega) (by simpa using hb) hB
    refine ⟨v', w', (List.range m.length).flatMap cs, hr, by simpa using k2, fun i x hx => ?_, k3, k5⟩
    have hil : i < m.length := (List.getElem?_eq_some_iff.1 hx).1
    refine ⟨cs i, hlen i hil, (h4 i x hx).1, fun j y hy => ?_⟩
    have hj : j < sz := by have := (List.getElem?_eq_some_iff.1 hy).1; have := hlen i hil; omega
    rw [flatC_get m.length hlen i j hil hj]
    exact hy
/-- The operation in a region that draws. -/
theorem wp_cat {o : Oper} {a : Act} {K : Act → World → Prop} {Q : Exit → Act → World → Prop} (d : Nat) (hd : o.dst = some d) (s y : Operand)
    (ho : o.op = .call { callee := .builtin .append, args := #[s, y], argTypes := #[t, t] }) (h : w.ownsRow B e sz v 0 []) (hu : Rd sz RE w u m) (hone : ∀ c x, RE w c x → ∀ y ∈ c, y.oneCell' = true) {i : TypeInfo} {z : Value} (ht : P.underlying t = some (.slice e)) (hi : P.info? e = some i) (hz : i.zero = some z) (hsize : i.size = sz) (hby : i.bytes = bytes) (hzs : z.cells.size = sz) (hsz : 0 < sz)
    (hs : a.eval s = v) (hy : a.eval y = u) (hl : m.length ≤ maxLen) (hb : m.length * bytes ≤ 140737488355328) (hB : B ≤ w.heap.size)
    (k : ∀ v' w' xs, w'.ownsRow B e sz v' m.length xs → (∀ i x, m[i]? = some x → ∃ c, c.length = sz ∧ RE w c x ∧ ∀ j y, c[j]? = some y → xs[i * sz + j]? = some y) → w.grownBy w' v.ownBlock → (v'.ownBlock = v.ownBlock ∨ v'.ownBlock = some w.heap.size) → K (a.put (some d) v') w') : o.wp P a w K Q := by
  obtain ⟨v', w', xs, hr, h2, h3, h4, h5⟩ := run_cat (P := P) (t := t) h hu hone o.type ht hi hz hsize hby hzs hsz hl hb hB
  unfold Oper.wp execOp
  simp only [ho, resolve, invoke, builtin, Sem.run_bind, Sem.run_pure, Result.andThen_ok, List.map_toArray, List.map_cons, List.map_nil, hs, hy, hr]
  have := k v' w' xs h2 h3 h4 h5
  rw [← hd] at this
  exact this
/-- The operation in a region that goes in the text's order. -/
theorem wpList_cat {ops : Array Oper} {rest : List Oper} {o : Oper} {a : Act} {Q : Exit → Act → World → Prop} (hgd : o.guard = none) (s y : Operand)
    (ho : o.op = .call { callee := .builtin .append, args := #[s, y], argTypes := #[t, t] }) (h : w.ownsRow B e sz v 0 []) (hu : Rd sz RE w u m) (hone : ∀ c x, RE w c x → ∀ y ∈ c, y.oneCell' = true) {i : TypeInfo} {z : Value} (ht : P.underlying t = some (.slice e)) (hi : P.info? e = some i) (hz : i.zero = some z) (hsize : i.size = sz) (hby : i.bytes = bytes) (hzs : z.cells.size = sz) (hsz : 0 < sz)
    (hs : a.eval s = v) (hy : a.eval y = u) (hl : m.length ≤ maxLen) (hb : m.length * bytes ≤ 140737488355328) (hB : B ≤ w.heap.size)
    (k : ∀ v' w' xs, w'.ownsRow B e sz v' m.length xs → (∀ i x, m[i]? = some x → ∃ c, c.length = sz ∧ RE w c x ∧ ∀ j y, c[j]? = some y → xs[i * sz + j]? = some y) → w.grownBy w' v.ownBlock → (v'.ownBlock = v.ownBlock ∨ v'.ownBlock = some w.heap.size) → wpList P ops Q rest (a.put o.dst v') w') : wpList P ops Q (o :: rest) a w := by
  refine wpList_plain hgd fun K hK => ?_
  obtain ⟨v', w', xs, hr, h2, h3, h4, h5⟩ := run_cat (P := P) (t := t) h hu hone o.type ht hi hz hsize hby hzs hsz hl hb hB
  unfold Oper.wp execOp
  simp only [ho, resolve, invoke, builtin, Sem.run_bind, Sem.run_pure, Result.andThen_ok, List.map_toArray, List.map_cons, List.map_nil, hs, hy, hr]
  exact hK _ _ (k v' w' xs h2 h3 h4 h5)
end
/-- An empty slice that is just made. -/
theorem owns_empty (w : World) (e : TypeId) (sz B : Nat) (hB : B ≤ w.heap.size) : (w.alloc (.cells #[] e)).ownsRow B e sz (.slice (some ⟨w.heap.size, 0, none⟩) 0 0) 0 [] :=
  ⟨by simp, .inr ⟨w.heap.size, 0, #[], rfl, hB, box_new w _, Nat.le_refl _, by simp [maxLen], by simp, by simp⟩⟩
/-- Bytes as a list of cells. -/
def ByteRE (_ : World) (c : List Value) (x : Int) : Prop := c = [.int .u8 x]
theorem Bs.rd1 {w : World} {v : Value} {l : List Int} (h : Bs w v l) : Rd 1 ByteRE w v l := by
  obtain ⟨-, a, cap, hv, h1, h2, h3, h4⟩ := h
  refine ⟨a, cap, fun i => [.int .u8 (l.getD i 0)], hv, h1, h2, h3, fun i x hx => ⟨?_, rfl⟩, fun hp => ?_⟩
  · show [Value.int .u8 (l.getD i 0)] = _
    rw [List.getD_eq_getElem?_getD, hx]
    rfl
  · obtain ⟨b, off, ha, hb, hc⟩ := h4 hp
    refine ⟨b, off, ha, hb, fun i j y hi hy => ?_⟩
    cases j with
    | zero =>
      simp at hy
      subst hy
      have h := hc i hi
      rw [show off + i * 1 + 0 = off + i by omega]
      exact h
    | succ j => simp at hy
theorem one_byte : ∀ (w : World) (c : List Value) (x : Int), ByteRE w c x → ∀ y ∈ c, y.oneCell' = true := by
  rintro w c x rfl y hy
  simp at hy
  subst hy
  rfl
theorem one_gone : ∀ (w : World) (c : List Value) (x : GoneD), GoneRE w c x → ∀ y ∈ c, y.oneCell' = true := by
  rintro w c x ⟨rfl, -⟩ y hy
  simp at hy
  rcases hy with rfl | rfl <;> rfl
/-- What comes back, as bytes of the call's own, as a list of those that went. -/
theorem ro_of {w w0 : World} {B : Nat} {v : Value} {l : List Int} {xs : List Value} {S : Nat → Prop} (ho : Oct l) (h : w.ownsRow B 5 1 v l.length xs) (hx : ∀ i x, l[i]? = some x → ∃ c, c.length = 1 ∧ ByteRE w0 c x ∧ ∀ j y, c[j]? = some y → xs[i * 1 + j]? = some y) (hS : ∀ g, v.ownBlock = some g → S g) : RO w S v l := by
  have e : xs = vals l := by
    apply List.ext_getElem?
    intro i
    have hlen := h.1
    by_cases hi : i < l.length
    · obtain ⟨c, -, hc, hj⟩ := hx i l[i] (List.getElem?_eq_getElem hi)
      have hc' : c = [.int .u8 l[i]] := hc
      subst hc'
      have := hj 0 _ rfl
      simp only [Nat.mul_one, Nat.add_zero] at this
      rw [this]
      simp [vals, List.getElem?_eq_getElem hi]
    · rw [List.getElem?_eq_none (by omega), List.getElem?_eq_none (by simp [vals]; omega)]
  subst e
  refine ⟨ho, ⟨h.1, ?_⟩, hS⟩
  rcases h.2 with hn | ⟨g, cap, cur, hv, hg, r⟩
  · exact .inl hn
  · exact .inr ⟨g, cap, cur, hv, Nat.zero_le _, r⟩
theorem gones_of {w w0 : World} {B : Nat} {v : Value} {l : List GoneD} {xs : List Value} {S : Nat → Prop} (h : w.ownsRow B 53 2 v l.length xs) (hx : ∀ i x, l[i]? = some x → ∃ c, c.length = 2 ∧ GoneRE w0 c x ∧ ∀ j y, c[j]? = some y → xs[i * 2 + j]? = some y) (hS : ∀ g, v.ownBlock = some g → S g) : GonesO w S v l := by
  rcases h.2 with ⟨hn, hl⟩ | ⟨g, cap, cur, hv, hg, hh, h1, h2, h3, h4⟩
  · exact .inl ⟨hn, List.eq_nil_of_length_eq_zero hl⟩
  · refine .inr ⟨g, cap, cur, fun i => match l[i]? with | some x => [.int .i64 x.uid, .int .i64 x.seq] | none => [], fun _ _ => False, hv, hh, h1, h2, h3, hS g (by rw [hv]; rfl), fun i x hi => ?_, by simp, by simp⟩
    obtain ⟨c, -, ⟨hc, hi6⟩, hj⟩ := hx i x hi
    simp only [hi]
    refine ⟨⟨rfl, hi6⟩, rfl, fun j y hy => ?_⟩
    rw [← hc] at hy
    have := hj j y hy
    rw [← h4, List.getElem?_take] at this
    split at this
    · simpa using this
    · cases this

end Go.Proofs.Ytodoofdbpffolaa

/- What PutText and GetText answer, on lists. -/
namespace Go.Proofs.Ytodoofdbpffolaa
open Go.RowKit

/-- What PutText answers. -/
def putTL (b t : List Int) : List Int := if 30 < t.length then b else putL b t.length ++ t
theorem putTL_length (b t : List Int) : (putTL b t).length ≤ b.length + 35 := by
  unfold putTL
  have := putL_length b t.length
  split
  · omega
  · simp; omega

/-- What GetText answers. -/
def getTL (l : List Int) (at' : Int) : List Int × Int :=
  if (getL l at').2 < 0 ∨ 30 < (getL l at').1 ∨ (l.length : Int) - (getL l at').2 < (getL l at').1 then ([], -1)
  else ((l.drop (getL l at').2.toNat).take (getL l at').1.toNat, (getL l at').2 + (getL l at').1)

theorem dec_bd (f i : Nat) (n sc : Int) (l : List Int) (hn : 0 ≤ n) (hs : 0 ≤ sc) : dec f i n sc l = none ∨ ∃ m k, dec f i n sc l = some (m, k) ∧ 0 ≤ m ∧ m ≤ 2147483647 ∧ i < k ∧ k ≤ i + l.length := by
  induction f generalizing i n sc l with
  | zero => left; rfl
  | succ f ih =>
    cases l with
    | nil => left; rfl
    | cons x r =>
      simp only [dec]
      have hx : 0 ≤ x % 128 * sc := Int.mul_nonneg (by omega) hs
      split
      · split
        · left; rfl
        · right; refine ⟨_, _, rfl, by omega, by omega, by omega, by simp⟩
      · rcases ih (i + 1) (n + x % 128 * sc) (sc * 128) r (by omega) (by omega) with h | ⟨m, k, h1, h2, h3, h4, h5⟩
        · left; exact h
        · right; exact ⟨m, k, h1, h2, h3, by omega, by simp; omega⟩
theorem getL_bd (l : List Int) (at' : Int) : getL l at' = (0, -1) ∨ (0 ≤ (getL l at').1 ∧ (getL l at').1 ≤ 2147483647 ∧ 1 ≤ (getL l at').2 ∧ (getL l at').2 ≤ l.length) := by
  unfold getL
  split
  · left; rfl
  · rcases dec_bd 5 0 0 1 (l.drop at'.toNat) (by omega) (by omega) with h | ⟨m, k, h1, h2, h3, h4, h5⟩
    · rw [h]; left; rfl
    · right
      rw [h1]
      simp at h5
      simp only [outOf]
      omega
theorem getTL_length (l : List Int) (at' : Int) : (getTL l at').1.length ≤ 30 := by
  unfold getTL
  split
  · simp
  · simp; omega

/-- A cut of a slice of bytes, not at its very end. -/
theorem bs_cut {w : World} {b off cap : Nat} {l : List Int} (hv : Bs w (.slice (some ⟨b, off, none⟩) l.length cap) l) (lo n : Nat) (h : lo + n ≤ l.length) :
    Bs w (.slice (some ⟨b, off + lo, none⟩) n (cap - lo)) ((l.drop lo).take n) := by
  obtain ⟨ho, a, cap', hv, h1, h2, h3, h4⟩ := hv
  simp only [Value.slice.injEq] at hv
  obtain ⟨rfl, -, rfl⟩ := hv
  have hl : ((l.drop lo).take n).length = n := by simp; omega
  refine ⟨oct_take (oct_drop ho _) _, _, cap - lo, by rw [hl], by rw [hl]; omega, by omega, (fun h => by cases h), fun hp => ?_⟩
  rw [hl] at hp
  obtain ⟨b', off', e, hlt, hc⟩ := h4 (by omega)
  simp only [Option.some.injEq, Addr.mk.injEq, and_true] at e
  obtain ⟨rfl, rfl⟩ := e
  refine ⟨b, off + lo, rfl, hlt, fun i hi => ?_⟩
  rw [hl] at hi
  rw [Nat.add_assoc, hc (lo + i) (by omega)]
  simp [hi]
theorem bs_empty (w : World) (x : Addr) (c : Nat) (hc : c ≤ maxLen) : Bs w (.slice (some x) 0 c) [] :=
  ⟨oct_nil, some x, c, rfl, by simp, hc, (fun h => by cases h), fun h => absurd h (by simp)⟩

end Go.Proofs.Ytodoofdbpffolaa

/- Numbers, flags and texts as lines have them, on lists. -/
namespace Go.Proofs.Ytodoofdbpffolaa
open Go.RowKit

theorem flat_len {α : Type} (f : α → List Int) (c : Nat) (l : List α) (h : ∀ x, x ∈ l → (f x).length ≤ c) : (l.flatMap f).length ≤ c * l.length := by
  induction l with
  | nil => simp
  | cons x l ih =>
    have h1 := h x (by simp)
    have h2 := ih fun y hy => h y (by simp [hy])
    simp only [List.flatMap_cons, List.length_append, List.length_cons, Nat.mul_add]
    omega
theorem flat_step {α : Type} (f : α → List Int) {l : List α} {j : Nat} {x : α} (h : l[j]? = some x) : (l.take (j + 1)).flatMap f = (l.take j).flatMap f ++ f x := by
  have hj : j < l.length := (List.getElem?_eq_some_iff.1 h).1
  rw [List.take_succ_eq_append_getElem hj, (List.getElem?_eq_some_iff.1 h).2]
  simp

def ofU8 (l : List UInt8) : List Int := l.map fun b => (b.toNat : Int)
theorem ofU8_append (a b : List UInt8) : ofU8 (a ++ b) = ofU8 a ++ ofU8 b := by simp [ofU8]
theorem ofU8_oct (l : List UInt8) : Oct (ofU8 l) := by
  intro x hx
  obtain ⟨b, _, rfl⟩ := List.mem_map.1 hx
  have := b.toNat_lt
  omega
/-- The decimal digits of a number. -/
def digB (n : Nat) : List Int := ofU8 (Lib.decDigits n)
theorem digB_small {n : Nat} (h : n < 10) : digB n = [48 + (n : Int)] := by
  rw [digB, Lib.decDigits, dif_pos h]
  simp only [ofU8, List.map_cons, List.map_nil, List.cons.injEq, and_true]
  rw [UInt8.toNat_ofNat']
  omega
theorem digB_big {n : Nat} (h : ¬ n < 10) : digB n = digB (n / 10) ++ [48 + ((n % 10 : Nat) : Int)] := by
  rw [digB, Lib.decDigits, dif_neg h, ofU8_append, digB]
  congr 1
  simp only [ofU8, List.map_cons, List.map_nil, List.cons.injEq, and_true]
  rw [UInt8.toNat_ofNat']
  omega
theorem digB_len (n : Nat) : (digB n).length ≤ n + 1 := by
  induction n using Nat.strongRecOn with
  | ind n ih =>
    by_cases h : n < 10
    · rw [digB_small h]; simp
    · rw [digB_big h]
      have := ih (n / 10) (by omega)
      simp only [List.length_append, List.length_cons, List.length_nil]
      omega
theorem digB_len10 {n : Nat} (h : n ≤ 9999999) : (digB n).length ≤ 8 := by
  have step : ∀ k : Nat, ∀ n : Nat, n < 10 ^ (k + 1) → (digB n).length ≤ k + 1 := by
    intro k
    induction k with
    | zero => intro n hn; rw [digB_small (by omega)]; simp
    | succ k ih =>
      intro n hn
      by_cases h : n < 10
      · rw [digB_small h]; simp
      · rw [digB_big h]
        have := ih (n / 10) (by rw [Nat.pow_succ] at hn; omega)
        simp only [List.length_append, List.length_cons, List.length_nil]
        omega
  exact Nat.le_trans (step 6 n (by omega)) (by omega)

/-- A byte of a text between quotes. -/
def escB (x : Int) : List Int := if x = 34 ∨ x = 92 then [92, x] else [x]
def quoB (t : List Int) : List Int := [34] ++ t.flatMap escB ++ [34]
theorem escB_len (x : Int) : (escB x).length ≤ 2 := by unfold escB; split <;> simp

/-- Flags: a letter for each that is there. -/
def letB (i : Nat) : Int := match i with
  | 0 => 83
  | 1 => 65
  | 2 => 70
  | 3 => 68
  | _ => 82
def flagAt (f : Int) (i : Nat) : List Int := if f.toNat / 2 ^ i % 2 = 1 then [letB i] else []
def flagsB (f : Int) : List Int := [40] ++ (List.range 5).flatMap (flagAt f) ++ [41]

end Go.Proofs.Ytodoofdbpffolaa

/- Accounts as bytes, on lists. -/
namespace Go.Proofs.Ytodoofdbpffolaa
open Go.RowKit

def numB (n : Int) : List Int := putL [] n
def txB (t : List Int) : List Int := putTL [] t
theorem putL_eq (b : List Int) (n : Int) : putL b n = b ++ numB n := by
  unfold numB putL
  split <;> simp
theorem putTL_eq (b t : List Int) : putTL b t = b ++ txB t := by
  unfold txB putTL
  split
  · simp
  · rw [putL_eq b, putL_eq []]; simp
theorem numB_len (n : Int) : (numB n).length ≤ 5 := by have := putL_length [] n; simp [numB]; simpa using this.2
theorem txB_len (t : List Int) : (txB t).length ≤ 35 := by have := putTL_length [] t; simpa [txB] using this
def numsB (l : List Int) : List Int := l.flatMap numB
def mailBs (m : MailD) : List Int := numB m.uid ++ (numB m.flags ++ (numB m.seq ++ txB m.text))
def goneBs (g : GoneD) : List Int := numB g.uid ++ numB g.seq
def boxBs (x : BoxD) : List Int := txB x.name ++ (numB x.valid ++ (numB x.next ++ (numB x.seq ++ (numB x.lost ++ (numB x.mails.length ++ (x.mails.flatMap mailBs ++ (numB x.gones.length ++ x.gones.flatMap goneBs)))))))
def accBs (a : AccD) : List Int := numB a.valid ++ (numB a.boxes.length ++ (a.boxes.flatMap boxBs ++ (numB a.seen.length ++ numsB a.seen)))
theorem mailBs_len (m : MailD) : (mailBs m).length ≤ 50 := by
  have h1 := numB_len m.uid
  have h2 := numB_len m.flags
  have h3 := numB_len m.seq
  have h4 := txB_len m.text
  simp only [mailBs, List.length_append]
  omega
theorem goneBs_len (m : GoneD) : (goneBs m).length ≤ 10 := by
  have h1 := numB_len m.uid
  have h3 := numB_len m.seq
  simp only [goneBs, List.length_append]
  omega
theorem mails_len (l : List MailD) : (l.flatMap mailBs).length ≤ 50 * l.length := flat_len _ _ _ fun _ _ => mailBs_len _
theorem gones_len (l : List GoneD) : (l.flatMap goneBs).length ≤ 10 * l.length := flat_len _ _ _ fun _ _ => goneBs_len _
theorem nums_len (l : List Int) : (numsB l).length ≤ 5 * l.length := flat_len _ _ _ fun _ _ => numB_len _
theorem boxBs_len (x : BoxD) (h1 : x.mails.length ≤ 12) (h2 : x.gones.length ≤ 40) : (boxBs x).length ≤ 1100 := by
  have k0 := txB_len x.name
  have k1 := numB_len x.valid
  have k2 := numB_len x.next
  have k3 := numB_len x.seq
  have k4 := numB_len x.lost
  have k5 := numB_len x.mails.length
  have k6 := numB_len x.gones.length
  have k7 := mails_len x.mails
  have k8 := gones_len x.gones
  simp only [boxBs, List.length_append]
  omega
theorem boxes_len (l : List BoxD) (h : ∀ x, x ∈ l → x.mails.length ≤ 12 ∧ x.gones.length ≤ 40) : (l.flatMap boxBs).length ≤ 1100 * l.length := flat_len _ _ _ fun x hx => boxBs_len x (h x hx).1 (h x hx).2
theorem accB_small {a : AccD} (h : accB a = true) : a.boxes.length ≤ 4 ∧ (∀ x, x ∈ a.boxes → x.mails.length ≤ 12 ∧ x.gones.length ≤ 40) := by
  simp only [accB, Bool.and_eq_true, decide_eq_true_eq, List.all_eq_true, List.mem_range] at h
  refine ⟨h.2.1, fun x hx => ?_⟩
  obtain ⟨i, hi, rfl⟩ := List.mem_iff_getElem.1 hx
  have := h.2.2.2 i hi
  simp only [boxAt, List.getElem?_eq_getElem hi, boxB, mailsB, gonesB, Bool.and_eq_true, decide_eq_true_eq] at this
  exact ⟨this.1.2.2.2.2.2.1.1, this.1.2.2.2.2.2.2.1⟩

/-- What AccountBytes answers. -/
def outB (x : AccD) : List Int := match accB x with
  | true => accBs x
  | false => []
theorem accB_seen {a : AccD} (h : accB a = true) : a.seen.length ≤ 60 := by
  simp only [accB, seenB, Bool.and_eq_true, decide_eq_true_eq] at h
  exact h.2.2.1.1

theorem outB_len (x : AccD) : (outB x).length ≤ 10000 := by
  cases h : accB x with
  | false => simp [outB, h]
  | true =>
    have h1 := accB_small h
    have h2 := accB_seen h
    have k0 := numB_len x.valid
    have k1 := numB_len x.boxes.length
    have k2 := numB_len x.seen.length
    have k3 := boxes_len x.boxes h1.2
    have k4 := nums_len x.seen
    simp only [outB, h, accBs, List.length_append]
    omega

end Go.Proofs.Ytodoofdbpffolaa

/- There and back: numbers and texts come back from their bytes, and bytes that are read are just the bytes of what was read. -/
namespace Go.Proofs.Ytodoofdbpffolaa
open Go.RowKit

theorem dec_enc (f i : Nat) (n0 sc n : Int) (r : List Int) (h0 : 0 ≤ n) (h1 : n < 128 * 128 ^ f) (hi : 0 < i → 0 < n) (hm : n0 + n * sc ≤ 2147483647) (hn0 : 0 ≤ n0) (hs : 0 ≤ sc) :
    dec (f + 1) i n0 sc (enc f n ++ r) = some (n0 + n * sc, i + (enc f n).length) := by
  induction f generalizing i n0 sc n with
  | zero =>
    have hx : n < 128 := by simpa using h1
    have e : n % 128 = n := by omega
    simp only [enc, List.singleton_append, dec, e]
    rw [if_pos hx, if_neg (by omega)]
    simp
  | succ f ih =>
    by_cases hb : 127 < n
    · rw [enc_hi f n hb]
      simp only [List.cons_append, dec]
      have e : n0 + (n % 128 + 128) % 128 * sc + n / 128 * (sc * 128) = n0 + n * sc := by
        have h1 : (n % 128 + 128) % 128 = n % 128 := by omega
        have h2 : n = n % 128 + 128 * (n / 128) := by omega
        rw [h1]
        generalize n % 128 = a at *
        generalize n / 128 = b at *
        subst h2
        rw [Int.add_mul, Int.mul_comm sc 128, ← Int.mul_assoc, Int.mul_comm b 128, Int.add_assoc]
      have hp : n < 128 * (128 ^ f * 128) := by rw [← Int.pow_succ]; exact h1
      rw [if_neg (by omega), ih (i + 1) _ (sc * 128) (n / 128) (by omega) (by omega) (fun _ => by omega) (by omega) (by have := Int.mul_nonneg (show 0 ≤ (n % 128 + 128) % 128 by omega) hs; omega) (by omega), e]
      simp; omega
    · have e : n % 128 = n := by omega
      rw [enc_lo _ n hb]
      simp only [List.singleton_append, dec, e]
      rw [if_pos (by omega), if_neg (by omega)]
      simp

theorem enc_dec (f i : Nat) (n sc : Int) (l : List Int) (m : Int) (k : Nat) (ho : Oct l) (h : dec (f + 1) i n sc l = some (m, k)) :
    ∃ v, 0 ≤ v ∧ m = n + v * sc ∧ i < k ∧ l.take (k - i) = enc f v ∧ (0 < i → 0 < v) := by
  induction f generalizing i n sc l with
  | zero =>
    cases l with
    | nil => simp [dec] at h
    | cons x r =>
      have hx := ho x (by simp)
      simp only [dec] at h
      split at h
      · rename_i hlt
        split at h
        · simp at h
        · rename_i hb
          simp only [Option.some.injEq, Prod.mk.injEq] at h
          obtain ⟨rfl, rfl⟩ := h
          refine ⟨x, hx.1, by rw [show x % 128 = x by omega], by omega, ?_, fun hi => ?_⟩
          · rw [show i + 1 - i = 1 by omega, enc_lo _ x (by omega)]; simp
          · by_cases hz : x = 0
            · exact absurd (Or.inl ⟨hz, hi⟩) hb
            · omega
      · simp at h
  | succ f ih =>
    cases l with
    | nil => simp [dec] at h
    | cons x r =>
      have hx := ho x (by simp)
      rw [dec] at h
      split at h
      · rename_i hlt
        split at h
        · simp at h
        · rename_i hb
          simp only [Option.some.injEq, Prod.mk.injEq] at h
          obtain ⟨rfl, rfl⟩ := h
          refine ⟨x, hx.1, by rw [show x % 128 = x by omega], by omega, ?_, fun hi => ?_⟩
          · rw [show i + 1 - i = 1 by omega, enc_lo _ x (by omega)]; simp
          · by_cases hz : x = 0
            · exact absurd (Or.inl ⟨hz, hi⟩) hb
            · omega
      · rename_i hge
        obtain ⟨v, hv0, hv1, hv2, hv3, hv4⟩ := ih (i + 1) _ _ r (fun y hy => ho y (by simp [hy])) h
        have hvp := hv4 (by omega)
        refine ⟨x % 128 + 128 * v, by omega, ?_, by omega, ?_, fun _ => by omega⟩
        · rw [hv1, Int.add_mul, Int.mul_comm sc 128, ← Int.mul_assoc, Int.mul_comm v 128, Int.add_assoc]
        · rw [show k - i = (k - (i + 1)) + 1 by omega, List.take_succ_cons, hv3, enc_hi f _ (by omega)]
          congr 1
          · omega
          · congr 1; omega

theorem drop_len (b r : List Int) : (b ++ r).drop b.length = r := by simp
theorem get_put (b r : List Int) (n : Int) (h0 : 0 ≤ n) (h1 : n ≤ 2147483647) : getL (b ++ enc 4 n ++ r) b.length = (n, ((b ++ enc 4 n).length : Int)) := by
  unfold getL
  rw [if_neg (by omega), Int.toNat_natCast, List.append_assoc, drop_len, dec_enc 4 0 0 1 n r h0 (by omega) (fun h => absurd h (by omega)) (by omega) (by omega) (by omega)]
  simp [outOf]
theorem put_get (l : List Int) (at' k stop : Int) (ho : Oct l) (h : getL l at' = (k, stop)) (hs : 0 ≤ stop) : 0 ≤ at' ∧ at' ≤ stop ∧ stop ≤ l.length ∧ putL (l.take at'.toNat) k = l.take stop.toNat := by
  have hbd := getL_bd l at'
  rw [h] at hbd
  unfold getL at h
  split at h
  · simp only [Prod.mk.injEq] at h; omega
  · cases hd : dec 5 0 0 1 (l.drop at'.toNat) with
    | none => rw [hd] at h; simp only [outOf, Prod.mk.injEq] at h; omega
    | some p =>
      obtain ⟨m, q⟩ := p
      rw [hd] at h
      simp only [outOf, Prod.mk.injEq] at h
      obtain ⟨rfl, rfl⟩ := h
      obtain ⟨v, hv0, hv1, hv2, hv3, -⟩ := enc_dec 4 0 0 1 _ _ _ (oct_drop ho _) hd
      have hmv : m = v := by omega
      subst hmv
      have hb2 : 0 ≤ m ∧ m ≤ 2147483647 ∧ at' + q ≤ l.length := by
        rcases hbd with hb | hb
        · simp only [Prod.mk.injEq] at hb; omega
        · simp only at hb; omega
      refine ⟨by omega, by omega, hb2.2.2, ?_⟩
      unfold putL
      rw [if_pos ⟨hb2.1, hb2.2.1⟩, ← hv3, Nat.sub_zero, show (at' + (q : Int)).toNat = at'.toNat + q by omega, List.take_add]

theorem getT_putT (c t : List Int) (ht : t.length ≤ 30) : getTL (putTL c t) c.length = (t, ((putTL c t).length : Int)) := by
  have e : putTL c t = c ++ enc 4 t.length ++ t := by unfold putTL putL; rw [if_neg (by omega), if_pos (by omega)]
  have g := get_put c t (t.length : Int) (by omega) (by omega)
  unfold getTL
  rw [e, g]
  simp only
  rw [if_neg (by simp; omega), Int.toNat_natCast, Int.toNat_natCast, drop_len]
  simp
  omega

end Go.Proofs.Ytodoofdbpffolaa
