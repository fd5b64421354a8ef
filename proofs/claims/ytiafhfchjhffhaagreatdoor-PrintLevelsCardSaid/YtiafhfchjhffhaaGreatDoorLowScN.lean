/- paclaim: TreeEqIn -/
import Derived.Test.YtiafhfchjhffhaaGreatDoorLowEq
namespace Go.Proofs.YtiafhfchjhffhaaGreatDoor
open Go.RowKit
set_option linter.unusedVariables false
end Go.Proofs.YtiafhfchjhffhaaGreatDoor
