/- The proof's texts, part 12. -/
import Derived.Test.YtfabngnaejjcmaaGreatDoorT6
import Derived.Deep.DeepCutAuto
namespace Go.Proofs.YtfabngnaejjcmaaGreatDoor
open Go.RowKit
set_option linter.unusedVariables false
set_option linter.unusedSimpArgs false
/- What aj1 of package spec does of every box. -/
end Go.Proofs.YtfabngnaejjcmaaGreatDoor
