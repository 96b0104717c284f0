/- Variables that are wide numbers. -/
import Derived.Test.YthlhfnafgjecaaaWorks
import Derived.Deep.RegionHeld3
namespace Go.Proofs.Ythlhfnafgjecaaa
open Go.RowKit
set_option linter.unusedVariables false

/-- A variable that is a wide number. -/
def VW (w : World) (g : Nat) (z : Int) : Prop := w.heap[g]? = some (.cells #[.int .u64 (Wd.lo z), .int .u64 (Wd.mi z), .int .u64 (Wd.hi z)] 25 (0, 0))
theorem VW.later {w w' : World} {g : Nat} {z : Int} (h : VW w g z) (hb : Below w.heap.size w w') : VW w' g z := below_row hb h (Nat.le_refl _)
theorem VW.last (w : World) (z : Int) : VW (w.alloc (.cells #[.int .u64 (Wd.lo z), .int .u64 (Wd.mi z), .int .u64 (Wd.hi z)] 25)) w.heap.size z := Go.heap_alloc_last w _
theorem VW.lie {w : World} {g : Nat} {z : Int} (h : VW w g z) : w.cell? ⟨g, 0, none⟩ = some (.int .u64 (Wd.lo z)) ∧ w.cell? ⟨g, 1, none⟩ = some (.int .u64 (Wd.mi z)) ∧ w.cell? ⟨g, 2, none⟩ = some (.int .u64 (Wd.hi z)) :=
  ⟨cell_of_row _ _ _ _ _ _ h, cell_of_row _ _ _ _ _ _ h, cell_of_row _ _ _ _ _ _ h⟩
/-- Four such variables, since W. -/
def V4 (W : World) (a b c d : Nat) (x y z s : Int) (w : World) : Prop := Below W.heap.size W w ∧ VW w a x ∧ VW w b y ∧ VW w c z ∧ VW w d s
theorem V4.later {W w w' : World} {a b c d : Nat} {x y z s : Int} (h : V4 W a b c d x y z s w) (hb : Below w.heap.size w w') : V4 W a b c d x y z s w' :=
  ⟨up h.1 hb, h.2.1.later hb, h.2.2.1.later hb, h.2.2.2.1.later hb, h.2.2.2.2.later hb⟩
theorem V4.keep {W w : World} {a b c d : Nat} {x y z s : Int} (h : V4 W a b c d x y z s w) : V4 W a b c d x y z s w ∧
    (w.cell? ⟨a, 0, none⟩ = some (.int .u64 (Wd.lo x)) ∧ w.cell? ⟨a, 1, none⟩ = some (.int .u64 (Wd.mi x)) ∧ w.cell? ⟨a, 2, none⟩ = some (.int .u64 (Wd.hi x))) ∧
    (w.cell? ⟨b, 0, none⟩ = some (.int .u64 (Wd.lo y)) ∧ w.cell? ⟨b, 1, none⟩ = some (.int .u64 (Wd.mi y)) ∧ w.cell? ⟨b, 2, none⟩ = some (.int .u64 (Wd.hi y))) ∧
    (w.cell? ⟨c, 0, none⟩ = some (.int .u64 (Wd.lo z)) ∧ w.cell? ⟨c, 1, none⟩ = some (.int .u64 (Wd.mi z)) ∧ w.cell? ⟨c, 2, none⟩ = some (.int .u64 (Wd.hi z))) ∧
    (w.cell? ⟨d, 0, none⟩ = some (.int .u64 (Wd.lo s)) ∧ w.cell? ⟨d, 1, none⟩ = some (.int .u64 (Wd.mi s)) ∧ w.cell? ⟨d, 2, none⟩ = some (.int .u64 (Wd.hi s))) :=
  ⟨h, h.2.1.lie, h.2.2.1.lie, h.2.2.2.1.lie, h.2.2.2.2.lie⟩
end Go.Proofs.Ythlhfnafgjecaaa
