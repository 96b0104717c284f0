/- Same (the program's): two sorted rows are compared. -/
import Derived.Test.YtgmdjofnkbaflaaDoorShall
import Derived.Test.YtgmdjofnkbaflaaDoorEq
namespace Go.Proofs.YtgmdjofnkbaflaaDoor
open Go.RowKit
set_option linter.unusedVariables false
set_option maxRecDepth 100000

theorem sort_ex (l : List Nd) : ∃ r, SortIs l r := by
  by_cases h : chk l = 0
  · obtain ⟨F, hF, _⟩ := may_of h
    exact ⟨_, .inl ⟨F, hF, rfl⟩⟩
  · exact ⟨[], .inr ⟨h, rfl⟩⟩
theorem sort_len {l r : List Nd} (h : SortIs l r) : r.length ≤ 4000 := by
  rcases h with ⟨F, hM, rfl⟩ | ⟨_, rfl⟩
  · have e : (Tp.flat (Tp.sT F)).length = Tp.sz (Tp.sT F) := rfl
    have e2 : (Tp.flat F).length = Tp.sz F := rfl
    rw [e, Tp.sT_sz, ← e2, hM.2.1.2.2]
    exact hM.1
  · simp
end Go.Proofs.YtgmdjofnkbaflaaDoor
