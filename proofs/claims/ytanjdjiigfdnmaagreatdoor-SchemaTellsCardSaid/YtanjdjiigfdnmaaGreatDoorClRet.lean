/- Results that are cells, in variables of their own. -/
import Derived.Test.YtanjdjiigfdnmaaGreatDoorClIs
namespace Go.Proofs.YtanjdjiigfdnmaaGreatDoor
open Go.RowKit
set_option linter.unusedVariables false
set_option maxRecDepth 100000

def cvc (c : Cl.C) : Array Value := #[.bool c.u, .int .i64 c.n, .string c.s]
theorem cell_info : (Tryz.prog.info? 34).map (·.size) = some 3 := by kernel_rfl
theorem ret1 {fn : Func} {p : Tmp} (h : fn.results = #[.cell p 34]) (tmps : Array Value) (w : World) (g : Nat) (c : Cl.C) (hp : tmps.getD p undef = .pointer (some ⟨g, 0, none⟩)) (hg : w.heap[g]? = some (.cells (cvc c) 34 (0, 0))) :
    (results fn tmps).run Tryz.prog w = .ok (cv c) w :=
  results_cell_row h tmps w g 34 (cvc c) (0, 0) _ hp hg Tryz.underlying34 rfl cell_info
theorem ret3 {fn : Func} {p a b : Tmp} (h : fn.results = #[.cell p 34, .tmp a, .tmp b]) (tmps : Array Value) (w : World) (g : Nat) (c : Cl.C) (hp : tmps.getD p undef = .pointer (some ⟨g, 0, none⟩)) (hg : w.heap[g]? = some (.cells (cvc c) 34 (0, 0))) :
    (results fn tmps).run Tryz.prog w = .ok (.tuple #[cv c, tmps.getD a undef, tmps.getD b undef]) w := by
  have hp' : tmps[p]?.getD undef = .pointer (some ⟨g, 0, none⟩) := by simpa using hp
  simp [results, h, hp', asAddr, run_loadVar_row w g 34 34 (cvc c) (0, 0) _ hg Tryz.underlying34 rfl cell_info]
  rfl
/-- A variable that holds a cell. -/
def CV (w : World) (g : Nat) (c : Cl.C) : Prop := Blk w g 34 [.bool c.u, .int .i64 c.n, .string c.s]
theorem CV.heap {w : World} {g : Nat} {c : Cl.C} (h : CV w g c) : w.heap[g]? = some (.cells (cvc c) 34 (0, 0)) := h
theorem CV.new (w : World) (u : Bool) (n : Int) (s : ByteArray) : CV (w.alloc (.cells #[.bool u, .int .i64 n, .string s] 34)) w.heap.size ⟨u, n, s⟩ := Blk.new w _ _
theorem CV.lie {w : World} {g : Nat} {c : Cl.C} (h : CV w g c) : w.cell? ⟨g, 0, none⟩ = some (.bool c.u) ∧ w.cell? ⟨g, 1, none⟩ = some (.int .i64 c.n) ∧ w.cell? ⟨g, 2, none⟩ = some (.string c.s) :=
  ⟨by have := h.cell 0; simpa using this, by have := h.cell 1; simpa using this, by have := h.cell 2; simpa using this⟩
theorem CV.free {w : World} {g : Nat} {c : Cl.C} (h : CV w g c) : w.frozen? ⟨g, 0, none⟩ = false ∧ w.frozen? ⟨g, 1, none⟩ = false ∧ w.frozen? ⟨g, 2, none⟩ = false := ⟨h.frozen 0, h.frozen 1, h.frozen 2⟩
theorem CV.later {w w' : World} {g : Nat} {c : Cl.C} (h : CV w g c) (hb : Below w.heap.size w w') : CV w' g c := Blk.later h hb
theorem CV.put {w : World} {g : Nat} {c : Cl.C} (h : CV w g c) (u : Bool) (n : Int) (s : ByteArray) : CV (((w.setCell ⟨g, 0, none⟩ (.bool u)).setCell ⟨g, 1, none⟩ (.int .i64 n)).setCell ⟨g, 2, none⟩ (.string s)) g ⟨u, n, s⟩ :=
  ((Blk.put h 0 (.bool u)).put 1 (.int .i64 n)).put 2 (.string s)
theorem CV.put1 {w : World} {g : Nat} {c : Cl.C} (h : CV w g c) (n : Int) : CV (w.setCell ⟨g, 1, none⟩ (.int .i64 n)) g ⟨c.u, n, c.s⟩ := Blk.put h 1 (.int .i64 n)
theorem CV.lt {w : World} {g : Nat} {c : Cl.C} (h : CV w g c) : g < w.heap.size := Blk.lt h
theorem put_below {w w1 : World} {g : Nat} (hg : w.heap.size ≤ g) (h : Below w.heap.size w w1) (a b c : Value) : Below w.heap.size w (((w1.setCell ⟨g, 0, none⟩ a).setCell ⟨g, 1, none⟩ b).setCell ⟨g, 2, none⟩ c) :=
  ((h.setCell hg _).setCell hg _).setCell hg _
end Go.Proofs.YtanjdjiigfdnmaaGreatDoor
