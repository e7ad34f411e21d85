/- The proof's texts, part 10. -/
import Derived.Test.YtfabngnaejjcmaaGreatDoorT2
import Derived.Deep.Light
namespace Go.Proofs.YtfabngnaejjcmaaGreatDoor
open Go.RowKit
set_option linter.unusedVariables false
/- What wE of package spec does of a kind that has a name alone. -/
end Go.Proofs.YtfabngnaejjcmaaGreatDoor
