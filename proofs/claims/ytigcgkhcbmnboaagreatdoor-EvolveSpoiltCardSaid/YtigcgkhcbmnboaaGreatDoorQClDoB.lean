/- QClDoB. -/
import Derived.Test.YtigcgkhcbmnboaaGreatDoorQClDo
/- Bits of the program. -/
namespace Go.Proofs.YtigcgkhcbmnboaaGreatDoor
open Go.RowKit
set_option linter.unusedVariables false
set_option maxRecDepth 100000

end Go.Proofs.YtigcgkhcbmnboaaGreatDoor
