/- The proof's texts, part 11. -/
import Derived.Test.YthimlcpingkndaaGreatDoorTa
namespace Go.Proofs.YthimlcpingkndaaGreatDoor
set_option maxRecDepth 100000
/- FnAborts: script 0. -/
theorem AR (v:Value):kT v 0=some (.sc v):=by kernel_rfl
end Go.Proofs.YthimlcpingkndaaGreatDoor
