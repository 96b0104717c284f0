/- Texts. -/
import Derived.Deep.DrawnRows
import Derived.StillTailTactics
import Derived.BigRegion
import Derived.Test.YtenfjmdajlhfoabGreatDoorKClRd
namespace Go.Proofs.YtenfjmdajlhfoabGreatDoor.Wd
def cmp (x y:Int):Int:=if x < y then -1 else if y < x then 1 else 0
end Go.Proofs.YtenfjmdajlhfoabGreatDoor.Wd
namespace Go.Proofs.YtenfjmdajlhfoabGreatDoor
open Go.RowKit
set_option linter.unusedVariables false
set_option maxRecDepth 100000
def cmpB (x y:ByteArray):Int:=if Tp.ly x y=true then -1 else if Tp.ly y x=true then 1 else 0
def fst2 (a b:Int):Int:=if a≠0 then a else b
attribute [local irreducible] Go.wpStill
end Go.Proofs.YtenfjmdajlhfoabGreatDoor
