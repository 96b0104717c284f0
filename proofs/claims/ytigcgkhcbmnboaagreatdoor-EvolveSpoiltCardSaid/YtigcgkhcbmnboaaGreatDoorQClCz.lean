/- QClCz. -/
import Derived.Test.YtigcgkhcbmnboaaGreatDoorQU4
import Derived.Deep.DrawnRows
import Derived.StillTailTactics
import Derived.BigRegion
import Derived.Test.YtigcgkhcbmnboaaGreatDoorQClRd
/- Cells that are compared: package cmp's functions, Compare of the program and of the reference. -/
namespace Go.Proofs.YtigcgkhcbmnboaaGreatDoor.Wd
def cmp (x y : Int) : Int := if x < y then -1 else if y < x then 1 else 0
end Go.Proofs.YtigcgkhcbmnboaaGreatDoor.Wd
namespace Go.Proofs.YtigcgkhcbmnboaaGreatDoor
open Go.RowKit
set_option linter.unusedVariables false
set_option maxRecDepth 100000

def cmpB (x y : ByteArray) : Int := if Tp.ly x y = true then -1 else if Tp.ly y x = true then 1 else 0
/-- The first of two that is not 0. -/
def fst2 (a b : Int) : Int := if a ≠ 0 then a else b
end Go.Proofs.YtigcgkhcbmnboaaGreatDoor

/- Zero and Compare of the program. -/
namespace Go.Proofs.YtigcgkhcbmnboaaGreatDoor
open Go.RowKit
set_option linter.unusedVariables false
set_option maxRecDepth 100000
attribute [local irreducible] Go.wpStill

end Go.Proofs.YtigcgkhcbmnboaaGreatDoor
