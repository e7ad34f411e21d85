/- The proof's texts, part 11. -/
import Derived.Test.YtfabngnaejjcmaaGreatDoorT2
import Derived.Deep.Light
namespace Go.Proofs.YtfabngnaejjcmaaGreatDoor
open Go.RowKit
set_option linter.unusedVariables false
/- What wE of package spec does of kind 6. -/
end Go.Proofs.YtfabngnaejjcmaaGreatDoor
