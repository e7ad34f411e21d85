/- The proof's texts, part 13. -/
import Derived.Test.YtfabngnaejjcmaaGreatDoorTc
namespace Go.Proofs.YtfabngnaejjcmaaGreatDoor
open Go.RowKit
set_option linter.unusedVariables false
set_option linter.unusedSimpArgs false
/- What R3 of package spec do. -/
end Go.Proofs.YtfabngnaejjcmaaGreatDoor
