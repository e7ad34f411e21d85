/- The proof's texts, part 49. -/
import Derived.Test.YtfabngnaejjcmaaGreatDoorTe
import Derived.Test.YtfabngnaejjcmaaGreatDoorT1
namespace Go.Proofs.YtfabngnaejjcmaaGreatDoor
set_option maxRecDepth 100000
/- alive, as the executor runs it. -/
noncomputable def Y2:Bool:=match Ey Tryz.prog 100 6 [] .e 0 with
 | .ok (.sc (.bool true)) _ _ _ _=>true
 | _=>false
theorem ain:Y2=true:=by kernel_rfl
end Go.Proofs.YtfabngnaejjcmaaGreatDoor
