/- Closed facts on the program's types that the walks use. -/
import Derived.Test.YtompmicdieebhaaRows
import Derived.Test.YtompmicdieebhaaLib
import Derived.Test.YtompmicdieebhaaLibApp
import Derived.Test.YtompmicdieebhaaLibNum
import Derived.Test.YtompmicdieebhaaLibCopy
import Derived.Test.YtompmicdieebhaaLibRow
import Derived.Deep.QuietTactic
import Derived.BigQuiet
namespace Go.Proofs.Ytompmicdieebhaa
open Go.RowKit

theorem info5 : (Try.prog.info? 5).map (fun i => (i.zero, i.size, i.bytes)) = some (some (.int .u8 0), 1, 1) := by kernel_rfl
theorem sz5 : (Try.prog.info? 5).map (·.size) = some 1 := by kernel_rfl
theorem size5 (W : World) : (sizeOf 5).run Try.prog W = .ok 1 W := by kernel_rfl
theorem bs_nil (w : World) : Bs w (.slice none 0 0) [] := ⟨oct_nil, none, 0, rfl, by simp, by simp, fun _ => rfl, fun h => absurd h (by simp)⟩

end Go.Proofs.Ytompmicdieebhaa
