/- copy of bytes into a row of the call's own, as one law for the walk: what is copied may be nil. -/
import Derived.Test.YtompmicdieebhaaLibApp
import Derived.Laws.CopyOwn
namespace Go.Proofs.Ytompmicdieebhaa
open Go.RowKit

theorem vals_splice (cur : List Int) (off : Nat) (m : List Int) : vals (splice cur off m) = splice (vals cur) off (vals m) := by simp [splice, vals, List.map_take, List.map_drop]
theorem splice_two (Z A B : List Int) (h : Z.length = A.length + B.length) : splice (splice Z 0 A) A.length B = A ++ B := by
  have h1 : (A ++ Z.drop A.length).drop (A.length + B.length) = [] := List.drop_eq_nil_of_le (by simp; omega)
  simp [splice, h1]

theorem wpList_copy_bytes {P : Program} {w : World} {ops : Array Oper} {rest : List Oper} {o : Oper} {a : Act} {Q : Exit → Act → World → Prop} (hgd : o.guard = none) (d s : Operand) (dT sT : TypeId)
    (ho : o.op = .call { callee := .builtin .copy, args := #[d, s], argTypes := #[dT, sT] }) (hu : P.underlying dT = some (.slice 5)) (hsz : (P.info? 5).map (·.size) = some 1)
    (dp : Option Addr) (dLen dCap : Nat) (hd : a.eval d = .slice dp dLen dCap) (u : Value) (m : List Int) (hs : a.eval s = u) (hm : Bs w u m) (k : Nat) (hk : k = Nat.min m.length dLen)
    (g off : Nat) (cur : List Int) (hg : w.heap[g]? = some (.cells (vals cur).toArray 5 (0, 0)))
    (hpos : 0 < k → dp = some ⟨g, off, none⟩) (hfit : off + k ≤ cur.length) (B : Nat) (w0 : World) (hb : Below B w0 w) (hBg : B ≤ g)
    (h : ∀ w', Hid (w'.heap[g]? = some (.cells (vals (splice cur off (m.take k))).toArray 5 (0, 0))) → Below B w0 w' → wpList P ops Q rest (a.put o.dst (goInt k)) w') :
    wpList P ops Q (o :: rest) a w := by
  obtain ⟨hmo, ad, cap, hv, h1, h2, h3, h4⟩ := hm
  have hkm : k ≤ m.length := by rw [hk]; exact Nat.min_le_left ..
  have hl : (m.take k).length = k := by simp; omega
  refine wpList_copy_splice hgd d s dT sT ho 5 hu hsz dp ad dLen dCap m.length cap hd (by rw [hs, hv]) g off (vals cur) 5 hg (vals (m.take k)) (by rw [length_vals, hl, hk]) ?_ (by rw [length_vals, length_vals, hl]; exact hfit) (oneCell_vals _) B w0 hb hBg ?_
  · intro hp
    rw [length_vals, hl] at hp
    obtain ⟨b, off', had, _, hc⟩ := h4 (by omega)
    refine ⟨hpos hp, _, had, fun j v hj => ?_⟩
    have hj' : j < k := by have := (List.getElem?_eq_some_iff.1 hj).1; rw [length_vals, hl] at this; exact this
    rw [Addr.add_lit, hc j (by omega), ← hj, vals_get _ j (by rw [hl]; exact hj')]
    simp [hj']
  · intro w' hg' hb'
    rw [length_vals, hl]
    exact h w' (by rw [vals_splice]; exact hg') hb'

end Go.Proofs.Ytompmicdieebhaa
