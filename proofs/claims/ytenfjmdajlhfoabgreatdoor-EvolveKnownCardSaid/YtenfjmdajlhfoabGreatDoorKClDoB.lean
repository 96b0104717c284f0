/- Texts. -/
import Derived.Test.YtenfjmdajlhfoabGreatDoorKClDo
namespace Go.Proofs.YtenfjmdajlhfoabGreatDoor
open Go.RowKit
set_option linter.unusedVariables false
set_option maxRecDepth 100000
end Go.Proofs.YtenfjmdajlhfoabGreatDoor
