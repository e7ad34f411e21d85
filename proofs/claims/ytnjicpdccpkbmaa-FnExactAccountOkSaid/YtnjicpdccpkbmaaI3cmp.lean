/- What bytes.Compare do. -/
import Derived.Test.YtnjicpdccpkbmaaBase
import Derived.Test.YtnjicpdccpkbmaaLibLog
import Derived.Test.YtnjicpdccpkbmaaAccM
import Derived.Shelf.Abstract
import Derived.Lib.BytesEntry
import Derived.Lib.Bytealg
namespace Go.Proofs.Ytnjicpdccpkbmaa
open Go.RowKit Go.Shelf
set_option linter.unusedVariables false

/-- The bytes of a slice, as the model's entries take them. -/
theorem run_bytesOf_bs {w : World} {v : Value} {l : List Int} (h : Bs w v l) : (Extern.Bytes.bytesOf v).run Try.prog w = .ok ⟨(bts l).toArray⟩ w := by
  obtain ⟨ho, a, cap, rfl, h1, h2, h3, h4⟩ := h
  cases a with
  | none =>
    have hc := h3 rfl
    have : l = [] := List.eq_nil_of_length_eq_zero (by omega)
    subst this
    rfl
  | some ad =>
    have key : ∀ j x, l[j]? = some x → w.cell? (ad.add j) = some (.int .u8 x) := by
      intro j x hj
      have hjl : j < l.length := (List.getElem?_eq_some_iff.1 hj).1
      obtain ⟨b, off, had, -, hc⟩ := h4 (by omega)
      cases had
      rw [Addr.add_lit, hc j hjl]
      simp [List.getD, hj]
    have := Lib.run_loadBytesX (P := Try.prog) w l ad .empty key
    simp only [Extern.Bytes.bytesOf]
    rw [this]
    congr 1
    apply ByteArray.ext
    show (#[] : Array UInt8) ++ _ = _
    simp only [Array.empty_append]
    rfl
theorem run_compare_bs {w : World} {v u : Value} {l m : List Int} (hv : Bs w v l) (hu : Bs w u m) : (Extern.BytealgCompare.compare #[v, u]).run Try.prog w = .ok (.int .i64 (Lib.compareBytes (bts l) (bts m))) w := by
  change Sem.run Try.prog (do pure (goInt (Extern.BytealgCompare.cmp (← Extern.Bytes.bytesOf v) (← Extern.Bytes.bytesOf u)))) w = _
  simp only [Sem.run_bind, Sem.run_pure, run_bytesOf_bs hv, run_bytesOf_bs hu, Result.andThen]
  rw [Lib.cmp_eq]
  rfl

set_option maxRecDepth 100000 in
set_option maxHeartbeats 1000000 in
theorem compare_any (v u : Value) (l m : List Int) (w : World) (hv : Bs w v l) (hu : Bs w u m) :
    Calls Try.prog 41 #[v, u] w fun e w' => e = .returned (.int .i64 (Lib.compareBytes (bts l) (bts m))) ∧ w' = w := by
  have h8 := @run_callFunc_extern Try.prog 69 _ Extern.BytealgCompare.compare Try.func69 (by kernel_rfl) (by kernel_rfl) (by kernel_rfl) (by kernel_rfl)
  have hr := run_compare_bs hv hu
  obtain ⟨a, n, c, rfl⟩ := hv.form3
  obtain ⟨a', n', c', rfl⟩ := hu.form3
  clear hv hu
  generalize Lib.compareBytes (bts l) (bts m) = r at hr
  go_enter Try.func41, Try.ntmps41
  go_wp2
  go_ret
  exact ⟨rfl, rfl⟩

end Go.Proofs.Ytnjicpdccpkbmaa
