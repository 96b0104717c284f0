/- Two variables, as a walk reads and writes them. -/
import Derived.Test.YtanjdjiigfdnmaaGreatDoorClKind
namespace Go.Proofs.YtanjdjiigfdnmaaGreatDoor
open Go.RowKit
set_option linter.unusedVariables false
set_option maxRecDepth 100000

theorem BX.free {w0 w : World} {u : Bool} {k : Int} {c : Cl.C} (h : BX w0 u k c w) : w.frozen? ⟨w0.heap.size + 1, 0, none⟩ = false ∧ w.frozen? ⟨w0.heap.size + 1, 1, none⟩ = false ∧ w.frozen? ⟨w0.heap.size + 1, 2, none⟩ = false := h.c.free
theorem BX.tlie {w0 w : World} {u : Bool} {k : Int} {c : Cl.C} (h : BX w0 u k c w) : w.cell? ⟨w0.heap.size, 0, none⟩ = some (.int .i64 k) ∧ w.cell? ⟨w0.heap.size, 1, none⟩ = some (.bool u) := h.t.lie
theorem BX.clie {w0 w : World} {u : Bool} {k : Int} {c : Cl.C} (h : BX w0 u k c w) : w.cell? ⟨w0.heap.size + 1, 0, none⟩ = some (.bool c.u) ∧ w.cell? ⟨w0.heap.size + 1, 1, none⟩ = some (.int .i64 c.n) ∧ w.cell? ⟨w0.heap.size + 1, 2, none⟩ = some (.string c.s) := h.c.lie
theorem BX.put {w0 w : World} {u : Bool} {k : Int} {c : Cl.C} (h : BX w0 u k c w) (a : Bool) (n : Int) (s : ByteArray) : (((w.setCell ⟨w0.heap.size + 1, 0, none⟩ (.bool a)).setCell ⟨w0.heap.size + 1, 1, none⟩ (.int .i64 n)).setCell ⟨w0.heap.size + 1, 2, none⟩ (.string s)).heap[w0.heap.size + 1]? = some (.cells (cvc ⟨a, n, s⟩) 34 (0, 0)) ∧
    Below w0.heap.size w0 (((w.setCell ⟨w0.heap.size + 1, 0, none⟩ (.bool a)).setCell ⟨w0.heap.size + 1, 1, none⟩ (.int .i64 n)).setCell ⟨w0.heap.size + 1, 2, none⟩ (.string s)) :=
  ⟨(h.c.put a n s).heap, put_below (Nat.le_succ _) h.b _ _ _⟩
theorem ret2 {fn : Func} {p a : Tmp} (h : fn.results = #[.cell p 34, .tmp a]) (tmps : Array Value) (w : World) (g : Nat) (c : Cl.C) (hp : tmps.getD p undef = .pointer (some ⟨g, 0, none⟩)) (hg : w.heap[g]? = some (.cells (cvc c) 34 (0, 0))) :
    (results fn tmps).run Tryz.prog w = .ok (.tuple #[cv c, tmps.getD a undef]) w := by
  have hp' : tmps[p]?.getD undef = .pointer (some ⟨g, 0, none⟩) := by simpa using hp
  simp [results, h, hp', asAddr, run_loadVar_row w g 34 34 (cvc c) (0, 0) _ hg Tryz.underlying34 rfl cell_info]
  rfl
theorem nte : (⟨#[110, 117, 108, 108]⟩ : ByteArray).toList = [110, 117, 108, 108] := by rw [Lib.toList_data]
theorem str_eq_bool (x s : ByteArray) : (x.toList == s.toList) = decide (x = s) := by
  rw [bl_eq, Bool.eq_iff_iff]; simp only [decide_eq_true_eq]
  exact ⟨bl_inj, fun h => by rw [h]⟩
end Go.Proofs.YtanjdjiigfdnmaaGreatDoor
