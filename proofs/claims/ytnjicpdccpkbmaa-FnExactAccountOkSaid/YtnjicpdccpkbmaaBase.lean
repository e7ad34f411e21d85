/- Closed facts on the program's types that the walks use. -/
import Derived.Test.YtnjicpdccpkbmaaRows
import Derived.Test.YtnjicpdccpkbmaaLib
import Derived.Test.YtnjicpdccpkbmaaLibApp
import Derived.Test.YtnjicpdccpkbmaaLibNum
import Derived.Test.YtnjicpdccpkbmaaLibCopy
import Derived.Test.YtnjicpdccpkbmaaLibRow
import Derived.Deep.QuietTactic
import Derived.BigQuiet
namespace Go.Proofs.Ytnjicpdccpkbmaa
open Go.RowKit

theorem info5 : (Try.prog.info? 5).map (fun i => (i.zero, i.size, i.bytes)) = some (some (.int .u8 0), 1, 1) := by kernel_rfl
theorem sz5 : (Try.prog.info? 5).map (·.size) = some 1 := by kernel_rfl
theorem size5 (W : World) : (sizeOf 5).run Try.prog W = .ok 1 W := by kernel_rfl
theorem bs_nil (w : World) : Bs w (.slice none 0 0) [] := ⟨oct_nil, none, 0, rfl, by simp, by simp, fun _ => rfl, fun h => absurd h (by simp)⟩

end Go.Proofs.Ytnjicpdccpkbmaa
