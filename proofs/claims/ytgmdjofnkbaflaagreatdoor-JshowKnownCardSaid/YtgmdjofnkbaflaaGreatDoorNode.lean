/- Nodes in memory: slices of nodes, of places, of texts; variables that hold a node. -/
import Derived.Test.YtgmdjofnkbaflaaGreatDoorGen
import Derived.Test.YtgmdjofnkbaflaaGreatDoorTree
import Derived.Test.YtgmdjofnkbaflaaGreatDoorSep
import Derived.Laws.StructEq
namespace Go.Proofs.YtgmdjofnkbaflaaGreatDoor
open Go.RowKit
set_option linter.unusedVariables false
abbrev Nd := Tp.Nd
abbrev Fo := Tp.Fo

/-- A node's cells. -/
def ndc (x : Nd) : List Value := [.int .i64 x.kind, .string x.key, .int .i64 x.n, .string x.s, .int .i64 x.size]
def ndv (x : Nd) : Value := .agg #[.int .i64 x.kind, .string x.key, .int .i64 x.n, .string x.s, .int .i64 x.size]
theorem ndL : Gn.Lay ndc 5 := ⟨fun _ => rfl, fun x v hv => by simp [ndc] at hv; rcases hv with rfl | rfl | rfl | rfl | rfl <;> rfl, by omega⟩
def ndz : Value := .agg #[.int .i64 0, .string ⟨#[]⟩, .int .i64 0, .string ⟨#[]⟩, .int .i64 0]
theorem ndY : Gn.Ty 22 28 ndz 5 56 := ⟨Tryz.underlying22, by kernel_rfl, by kernel_rfl, rfl, by omega⟩
/-- Numbers and texts that fit. -/
def Nok (x : Nd) : Prop := (-9223372036854775808 ≤ x.kind ∧ x.kind ≤ 9223372036854775807) ∧ x.key.size ≤ maxLen ∧ (-9223372036854775808 ≤ x.n ∧ x.n ≤ 9223372036854775807) ∧ x.s.size ≤ maxLen ∧ (-9223372036854775808 ≤ x.size ∧ x.size ≤ 9223372036854775807)
def RdN (w : World) (B : Nat) (v : Value) (l : List Nd) : Prop := Gn.Rd ndc 5 w B v l
def OwnN (w : World) (base : Nat) (v : Value) (l : List Nd) : Prop := Gn.Own ndc 5 28 w base v l
/-- Places. -/
def plc (x : Nat) : List Value := [.int .i64 (x : Nat)]
theorem plL : Gn.Lay plc 1 := ⟨fun _ => rfl, fun x v hv => by simp [plc] at hv; subst hv; rfl, by omega⟩
theorem plY : Gn.Ty 31 3 (.int .i64 0) 1 8 := ⟨Tryz.underlying31, by kernel_rfl, by kernel_rfl, rfl, by omega⟩
/-- Texts. -/
def txc (x : ByteArray) : List Value := [.string x]
theorem txL : Gn.Lay txc 1 := ⟨fun _ => rfl, fun x v hv => by simp [txc] at hv; subst hv; rfl, by omega⟩
theorem txY : Gn.Ty 43 9 (.string ⟨#[]⟩) 1 16 := ⟨Tryz.underlying43, by kernel_rfl, by kernel_rfl, rfl, by omega⟩
/-- Slices. -/
def slc (x : Value) : List Value := [x]
theorem slY : Gn.Ty 58 22 (.slice none 0 0) 1 24 := ⟨Tryz.underlying58, by kernel_rfl, by kernel_rfl, rfl, by omega⟩

theorem up {w w1 w2 : World} (h1 : Below w.heap.size w w1) (h2 : Below w1.heap.size w1 w2) : Below w.heap.size w w2 := h1.trans (h2.mono h1.size)
theorem up_new (w : World) (o : Obj) : Below w.heap.size w (w.alloc o) := (Below.refl _ _).alloc (Nat.le_refl _) _

/-- A variable that holds a node, in a block of its own. -/
def NdV (w : World) (g : Nat) (x : Nd) : Prop := Blk w g 28 (ndc x)
theorem NdV.lie {w : World} {g : Nat} {x : Nd} (h : NdV w g x) : w.cell? ⟨g, 0, none⟩ = some (.int .i64 x.kind) ∧ w.cell? ⟨g, 1, none⟩ = some (.string x.key) ∧ w.cell? ⟨g, 2, none⟩ = some (.int .i64 x.n) ∧ w.cell? ⟨g, 3, none⟩ = some (.string x.s) ∧ w.cell? ⟨g, 4, none⟩ = some (.int .i64 x.size) :=
  ⟨by have := h.cell 0; simpa [ndc] using this, by have := h.cell 1; simpa [ndc] using this, by have := h.cell 2; simpa [ndc] using this, by have := h.cell 3; simpa [ndc] using this, by have := h.cell 4; simpa [ndc] using this⟩

/-- Are two nodes the same? -/
def eqn (x y : Nd) : Bool := decide (x.kind = y.kind) && decide (bl x.key = bl y.key) && decide (x.n = y.n) && decide (bl x.s = bl y.s) && decide (x.size = y.size)
theorem eqn_iff (x y : Nd) : eqn x y = true ↔ x = y := by
  unfold eqn
  simp only [Bool.and_eq_true, decide_eq_true_eq]
  constructor
  · rintro ⟨⟨⟨⟨h1, h2⟩, h3⟩, h4⟩, h5⟩
    cases x; cases y
    simp only at h1 h2 h3 h4 h5
    have := bl_inj h2
    have := bl_inj h4
    simp_all
  · rintro rfl; simp
set_option maxHeartbeats 4000000 in
theorem run_eqn (x y : Nd) (w : World) : (Op.equalIn 10000 28 (ndv x) (ndv y)).run Tryz.prog w = .ok (eqn x y) w := by
  have hS : Tryz.prog.underlying 28 = some (.struct (Tryz.prog.fieldsOf 28)) := by kernel_rfl
  have hp : Tryz.prog.stoodInHeld 28 = false := by kernel_rfl
  have u1 := Tryz.underlying3
  have u2 := Tryz.underlying9
  have u3 := Tryz.underlying2
  have z1 := Tryz.sizeOf3
  have z2 := Tryz.sizeOf9
  have z3 := Tryz.sizeOf2
  have a1 := Tryz.isAgg3
  have a2 := Tryz.isAgg9
  have a3 := Tryz.isAgg2
  unfold ndv eqn
  simp only [← bl_eq]
  rw [show (10000 : Nat) = 9999 + 1 from rfl, run_equalIn_agg w 9999 28 _ _ hS hp]
  simp only [Program.fieldsOf, Tryz.underlying28]
  go_simp
  by_cases h1 : x.kind = y.kind <;> by_cases h2 : x.key.toList = y.key.toList <;> by_cases h3 : x.n = y.n <;> by_cases h4 : x.s.toList = y.s.toList <;> by_cases h5 : x.size = y.size <;> simp [h1, h2, h3, h4, h5]
end Go.Proofs.YtgmdjofnkbaflaaGreatDoor
