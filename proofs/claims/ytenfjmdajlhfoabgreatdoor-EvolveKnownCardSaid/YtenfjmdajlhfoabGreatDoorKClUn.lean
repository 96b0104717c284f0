/- Texts. -/
import Derived.Test.YtenfjmdajlhfoabGreatDoorKClRd
namespace Go.Proofs.YtenfjmdajlhfoabGreatDoor
open Go.RowKit
set_option linter.unusedVariables false
set_option maxRecDepth 100000
def gc (w:World) (a:Addr):Value:=(w.cell? a).getD undef
def VU (W:World) (g k:Nat) (F:List Value) (w:World):Prop :=
 Below W.heap.size W w∧Blk w g 104 F∧W.heap.size≤k∧g≠k∧∃ cs:Array Value,w.heap[k]?=some (.cells cs 61 (0,0))∧cs.size=3
attribute [irreducible] gc
def UbPost (w:World) (r:Cl.C × Nat × Nat) (e:Ending) (w':World):Prop:=e=.returned (.tuple #[cv r.1,.int .i64 (r.2.1:Nat),.int .i64 (r.2.2:Nat)])∧Below w.heap.size w w'
end Go.Proofs.YtenfjmdajlhfoabGreatDoor
