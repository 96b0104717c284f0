/- join, of lists and of objects (the program's). -/
import Derived.Test.YtgmdjofnkbaflaaDoorShall
import Derived.Laws.MakeOwn
namespace Go.Proofs.YtgmdjofnkbaflaaDoor
open Go.RowKit
set_option linter.unusedVariables false
set_option maxRecDepth 100000

theorem node_make (w : World) (s : Nat) (hs : 1 ≤ s) (hm : s ≤ 4000) :
    (Instr.makeSlice 24 (.int .i64 1) (.int .i64 (s : Nat))).run Tryd.prog w = .ok (.slice (some ⟨w.heap.size, 0, none⟩) 1 s) (w.alloc (.cells (madeCells ndz.cells (s * 5)) 59)) := by
  obtain ⟨i, hi, hz, hsz, hby⟩ := ndY.parts
  have h := run_makeSlice w 24 59 i ndz Tryd.underlying24 hi hz .i64 .i64 1 (s : Nat) (by omega) (by omega) (by rw [hsz]; simp; omega) (by rw [hby]; omega) (by omega)
  simpa [hsz] using h
theorem made_take (s : Nat) (hs : 1 ≤ s) : (madeCells ndz.cells (s * 5)).toList.take 5 = ndc ⟨0, ⟨#[]⟩, 0, ⟨#[]⟩, 0⟩ ∧ (madeCells ndz.cells (s * 5)).size = s * 5 := by
  have hl : (madeCells ndz.cells (s * 5)).size = s * 5 := by simp [madeCells]
  refine ⟨?_, hl⟩
  apply List.ext_getElem?
  intro j
  by_cases hj : j < 5
  · rw [List.getElem?_take_of_lt hj, Array.getElem?_toList, Array.getElem?_eq_getElem (by rw [hl]; omega)]
    rcases (show j = 0 ∨ j = 1 ∨ j = 2 ∨ j = 3 ∨ j = 4 by omega) with rfl | rfl | rfl | rfl | rfl <;> simp [madeCells, ndz, ndc, Value.cells]
  · rw [List.getElem?_take_eq_none (by omega), List.getElem?_eq_none (by simp [ndc]; omega)]
/-- A row of nodes that was made: one node, room for more. -/
theorem own_made (w : World) (s : Nat) (hs : 1 ≤ s) (hm : s ≤ 4000) : OwnN (w.alloc (.cells (madeCells ndz.cells (s * 5)) 59)) w.heap.size (.slice (some ⟨w.heap.size, 0, none⟩) 1 s) [⟨0, ⟨#[]⟩, 0, ⟨#[]⟩, 0⟩] := by
  obtain ⟨h1, h2⟩ := made_take s hs
  refine ⟨rfl, .inr ⟨w.heap.size, s, _, rfl, Nat.le_refl _, heap_alloc_new w _, by simp; omega, by simp [maxLen]; omega, h2, ?_⟩⟩
  show List.take 5 _ = _
  rw [h1]; rfl
end Go.Proofs.YtgmdjofnkbaflaaDoor
