/- The proof's texts, part 47. -/
import Derived.Test.YtfabngnaejjcmaaGreatDoorTa
import Derived.Test.YtfabngnaejjcmaaGreatDoorTb
import Derived.Test.YtfabngnaejjcmaaGreatDoorTE
import Derived.Test.YtfabngnaejjcmaaGreatDoorTK
namespace Go.Proofs.YtfabngnaejjcmaaGreatDoor
open Go.RowKit
set_option linter.unusedVariables false
/- What wE of package spec does of kind 2. -/
/- What wE of package spec does of kind 3. -/
/- What wE of package spec does of kind 5. -/
/- What wE of package spec does. -/
end Go.Proofs.YtfabngnaejjcmaaGreatDoor
