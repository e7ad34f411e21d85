/- The proof's texts, part 13. -/
import Derived.Test.YthimlcpingkndaaGreatDoorTa
namespace Go.Proofs.YthimlcpingkndaaGreatDoor
set_option maxRecDepth 100000
/- FnAborts: script 2. -/
theorem AX (v:Value):kT v 2=some (.sc v):=by kernel_rfl
end Go.Proofs.YthimlcpingkndaaGreatDoor
