/- Zero and Compare of the program. -/
import Derived.Test.YtfplogjdcndohaaGreatDoorClReadH
import Derived.Test.YtfplogjdcndohaaGreatDoorClCmp
namespace Go.Proofs.YtfplogjdcndohaaGreatDoor
open Go.RowKit
set_option linter.unusedVariables false
set_option maxRecDepth 100000
attribute [local irreducible] Go.wpStill

theorem cl_flip {f : Nat} {args : Array Value} {w : World} {v : Value} (h : Calls Tryz.prog f args w fun e w' => e = .returned v ∧ w = w') : Calls Tryz.prog f args w fun e w' => e = .returned v ∧ w' = w :=
  h.mono fun _ _ ⟨a, b⟩ => ⟨a, b.symm⟩
theorem cmp_or (a b : Cl.C) (h : a.u = b.u) : Cl.cmp a b = fst2 (Wd.cmp a.n b.n) (cmpB a.s b.s) := by
  unfold Cl.cmp fst2 Wd.cmp cmpB Tp.ly
  rw [if_pos h]
  by_cases h1 : a.n < b.n
  · rw [if_pos h1, if_pos h1]; rfl
  · rw [if_neg h1, if_neg h1]
    by_cases h2 : b.n < a.n
    · rw [if_pos h2, if_pos h2]; rfl
    · rw [if_neg h2, if_neg h2]; rfl
set_option maxHeartbeats 4000000 in
theorem cCompare (a b : Cl.C) (w : World) (r : Int) (hr : Cl.cmp a b = r) : Calls Tryz.prog 44 #[cv a, cv b] w fun e w' => e = .returned (.int .i64 r) ∧ Below w.heap.size w w' := by
  have H0 := Lib.hid ((box_new w (.cells #[.bool a.u, .int .i64 a.n, .string a.s] 34)).alloc (by simp) (.cells #[.bool b.u, .int .i64 b.n, .string b.s] 34))
  have R0 := CV.later (CV.new w a.u a.n a.s) (box_new _ (.cells #[.bool b.u, .int .i64 b.n, .string b.s] 34))
  have R1 := CV.new (w.alloc (.cells #[.bool a.u, .int .i64 a.n, .string a.s] 34)) b.u b.n b.s
  rw [show (w.alloc (.cells #[.bool a.u, .int .i64 a.n, .string a.s] 34)).heap.size = w.heap.size + 1 by simp] at R1
  obtain ⟨p0, p1, p2⟩ := R0.lie
  obtain ⟨s0, s1, s2⟩ := R1.lie
  have hlt := R1.lt
  by_cases hu : a.u = b.u
  · have HR := Lib.hid ((cmp_or a b hu).symm.trans hr)
    obtain ⟨u, n, s⟩ := a
    obtain ⟨v, m, t⟩ := b
    simp only at hu HR H0 p0 p1 p2 s0 s1 s2
    subst hu
    clear hr R0 R1
    unfold cv
    simp only
    go_enter Tryz.func44, Tryz.ntmps44
    go_wp2_with fail
    generalize (w.alloc (.cells #[.bool u, .int .i64 n, .string s] 34)).alloc (.cells #[.bool u, .int .i64 m, .string t] 34) = W0 at *
    have q1 : W0.drew.cell? ⟨w.heap.size, 1, none⟩ = some (.int .i64 n) := p1
    have q2 : W0.drew.cell? ⟨w.heap.size, 2, none⟩ = some (.string s) := p2
    have q4 : W0.drew.cell? ⟨w.heap.size + 1, 1, none⟩ = some (.int .i64 m) := s1
    have q5 : W0.drew.cell? ⟨w.heap.size + 1, 2, none⟩ = some (.string t) := s2
    clear p0 p1 p2 s0 s1 s2 hlt
    refine wp_region_still_tail 10 (by kernel_rfl) (by kernel_rfl) ?_
    simp only [List.take_succ_cons, List.take_zero, List.drop_succ_cons, List.drop_zero]
    repeat still_step
    refine wpStill_step (fun K' hK => ?_)
    go_simp
    refine ⟨.int .i64 (Wd.cmp n m), cl_flip (cmp_i n m _ _ rfl), hK _ ?_⟩
    clear hK K'
    repeat still_step
    refine wpStill_step (fun K' hK => ?_)
    go_simp
    refine ⟨.int .i64 (cmpB s t), cl_flip (cmpS s t _), hK _ ?_⟩
    clear hK K'
    repeat still_step
    refine wpStill_nil ?_
    go_wp2_with fail
    ((with_reducible refine (or2 _ _ (Wd.cmp n m) (cmpB s t) _ ?_ ?_).mono ?_))
    · exact cell_of_row _ _ _ _ _ _ (heap_alloc_new W0 _)
    · exact cell_of_row _ _ _ _ _ _ (heap_alloc_new W0 _)
    rintro e w' ⟨rfl, rfl⟩
    go_wp2
    go_ret
    exact ⟨congrArg Ending.returned (congrArg (Value.int IntKind.i64) HR.out), (H0.out.alloc H0.out.size _).drew⟩
  · have hr2 : (if a.u = true then (-1 : Int) else 1) = r := by rw [← hr]; unfold Cl.cmp; rw [if_neg hu]
    obtain ⟨u, n, s⟩ := a
    obtain ⟨v, m, t⟩ := b
    simp only at hu H0 p0 p1 p2 s0 s1 s2 hr2
    clear hr R0 R1
    unfold cv
    simp only
    cases u <;> cases v <;> simp at hu
    · obtain rfl : (1 : Int) = r := by simpa using hr2
      go_enter Tryz.func44, Tryz.ntmps44
      go_wp2_with fail
      go_ret
      exact ⟨rfl, H0.out⟩
    · obtain rfl : (-1 : Int) = r := by simpa using hr2
      go_enter Tryz.func44, Tryz.ntmps44
      go_wp2_with fail
      go_ret
      exact ⟨rfl, H0.out⟩
end Go.Proofs.YtfplogjdcndohaaGreatDoor
