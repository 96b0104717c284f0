/- Cells and types as values; cells that are compared. -/
import Derived.Test.YtanjdjiigfdnmaaGreatDoorClT
import Derived.Laws.StructEq
namespace Go.Proofs.YtanjdjiigfdnmaaGreatDoor
open Go.RowKit
set_option linter.unusedVariables false

/-- A cell; a type. -/
def cv (c : Cl.C) : Value := .agg #[.bool c.u, .int .i64 c.n, .string c.s]
def tv (u : Bool) (k : Int) : Value := .agg #[.int .i64 k, .bool u]
/-- Numbers and texts that fit. -/
def Cok (c : Cl.C) : Prop := Cl.I64 c.n ∧ c.s.size ≤ 1000000
/-- Are two cells the same? -/
def eqc (x y : Cl.C) : Bool := decide (x.u = y.u) && decide (x.n = y.n) && decide (bl x.s = bl y.s)
theorem eqc_iff (x y : Cl.C) : eqc x y = true ↔ x = y := by
  unfold eqc
  simp only [Bool.and_eq_true, decide_eq_true_eq]
  constructor
  · rintro ⟨⟨h1, h2⟩, h3⟩
    exact Cl.C.ext' h1 h2 h3
  · rintro rfl; simp
theorem eqc_dec (x y : Cl.C) (b : Bool) (h : b = true ↔ x = y) : eqc x y = b := by
  rw [Bool.eq_iff_iff, eqc_iff]; exact h.symm
set_option maxHeartbeats 4000000 in
theorem run_eqc (x y : Cl.C) (w : World) : (Op.equalIn 10000 34 (cv x) (cv y)).run Tryz.prog w = .ok (eqc x y) w := by
  have hS : Tryz.prog.underlying 34 = some (.struct (Tryz.prog.fieldsOf 34)) := by kernel_rfl
  have hp : Tryz.prog.stoodInHeld 34 = false := by kernel_rfl
  have u1 := Tryz.underlying4
  have u2 := Tryz.underlying9
  have u3 := Tryz.underlying2
  have z1 := Tryz.sizeOf4
  have z2 := Tryz.sizeOf9
  have z3 := Tryz.sizeOf2
  have a1 := Tryz.isAgg4
  have a2 := Tryz.isAgg9
  have a3 := Tryz.isAgg2
  unfold cv eqc
  simp only [← bl_eq]
  rw [show (10000 : Nat) = 9999 + 1 from rfl, run_equalIn_agg w 9999 34 _ _ hS hp]
  simp only [Program.fieldsOf, Tryz.underlying34]
  go_simp
  by_cases h1 : x.u = y.u <;> by_cases h3 : x.n = y.n <;> by_cases h4 : x.s.toList = y.s.toList <;> simp [h1, h3, h4]
end Go.Proofs.YtanjdjiigfdnmaaGreatDoor
