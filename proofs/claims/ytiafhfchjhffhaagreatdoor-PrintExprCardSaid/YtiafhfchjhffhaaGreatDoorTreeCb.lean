/- paclaim: TreeCb -/
import Derived.Test.YtiafhfchjhffhaaGreatDoorLowTrM
import Derived.Test.YtiafhfchjhffhaaGreatDoorLowTrF
import Derived.Test.YtiafhfchjhffhaaGreatDoorLowScN
namespace Go.Proofs.YtiafhfchjhffhaaGreatDoor
open Go.RowKit
set_option linter.unusedVariables false
end Go.Proofs.YtiafhfchjhffhaaGreatDoor
