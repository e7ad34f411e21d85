/- The proof's texts, part 12. -/
import Derived.Test.YthimlcpingkndaaGreatDoorTa
namespace Go.Proofs.YthimlcpingkndaaGreatDoor
set_option maxRecDepth 100000
/- FnAborts: script 1. -/
theorem AU (v:Value):kT v 1=some (.sc v):=by kernel_rfl
end Go.Proofs.YthimlcpingkndaaGreatDoor
