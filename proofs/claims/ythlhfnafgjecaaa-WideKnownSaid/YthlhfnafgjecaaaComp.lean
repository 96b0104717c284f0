/- Compare of the program, and what it calls of package cmp. -/
import Derived.Test.YthlhfnafgjecaaaInt
import Derived.Deep.DrawnRows
import Derived.StillTailTactics
namespace Go.Proofs.Ythlhfnafgjecaaa
open Go.RowKit
set_option linter.unusedVariables false
attribute [local go_sem ↓] Go.wp_at_zero Go.wp_at_succ
attribute [local irreducible] Go.wpStill

set_option maxHeartbeats 1000000 in
theorem nan_i (x : Int) (w : World) : Calls Try.prog 40 #[.int .i64 x] w fun e w' => e = .returned (.bool false) ∧ w = w' := by
  go_enter Try.func40, Try.ntmps40
  go_wp2
  go_ret
  exact ⟨rfl, rfl⟩
set_option maxHeartbeats 1000000 in
theorem nan_u (x : Int) (w : World) : Calls Try.prog 41 #[.int .u64 x] w fun e w' => e = .returned (.bool false) ∧ w = w' := by
  go_enter Try.func41, Try.ntmps41
  go_wp2
  go_ret
  exact ⟨rfl, rfl⟩
set_option maxHeartbeats 1000000 in
theorem cmp_i (x y c : Int) (w : World) (hc : Wd.cmp x y = c) : Calls Try.prog 35 #[.int .i64 x, .int .i64 y] w fun e w' => e = .returned (.int .i64 c) ∧ w = w' := by
  have HC := Lib.hid hc
  clear hc
  by_cases h1 : x < y
  · go_enter Try.func35, Try.ntmps35
    go_wp2_with fail
    ((with_reducible refine (nan_i x _).mono ?_); rintro e w' ⟨rfl, rfl⟩)
    go_wp2_with fail
    ((with_reducible refine (nan_i y _).mono ?_); rintro e w' ⟨rfl, rfl⟩)
    go_wp2
    go_ret
    exact ⟨by rw [← HC.out, Wd.cmp_lt _ _ h1]; rfl, rfl⟩
  · by_cases h2 : y < x
    · go_enter Try.func35, Try.ntmps35
      go_wp2_with fail
      ((with_reducible refine (nan_i x _).mono ?_); rintro e w' ⟨rfl, rfl⟩)
      go_wp2_with fail
      ((with_reducible refine (nan_i y _).mono ?_); rintro e w' ⟨rfl, rfl⟩)
      go_wp2
      go_ret
      exact ⟨by rw [← HC.out, Wd.cmp_gt _ _ h2]; rfl, rfl⟩
    · obtain rfl : x = y := by omega
      go_enter Try.func35, Try.ntmps35
      go_wp2_with fail
      ((with_reducible refine (nan_i x _).mono ?_); rintro e w' ⟨rfl, rfl⟩)
      go_wp2_with fail
      ((with_reducible refine (nan_i x _).mono ?_); rintro e w' ⟨rfl, rfl⟩)
      go_wp2
      go_ret
      exact ⟨by rw [← HC.out, Wd.cmp_eq]; rfl, rfl⟩
set_option maxHeartbeats 1000000 in
theorem cmp_u (x y c : Int) (w : World) (hc : Wd.cmp x y = c) : Calls Try.prog 36 #[.int .u64 x, .int .u64 y] w fun e w' => e = .returned (.int .i64 c) ∧ w = w' := by
  have HC := Lib.hid hc
  clear hc
  by_cases h1 : x < y
  · go_enter Try.func36, Try.ntmps36
    go_wp2_with fail
    ((with_reducible refine (nan_u x _).mono ?_); rintro e w' ⟨rfl, rfl⟩)
    go_wp2_with fail
    ((with_reducible refine (nan_u y _).mono ?_); rintro e w' ⟨rfl, rfl⟩)
    go_wp2
    go_ret
    exact ⟨by rw [← HC.out, Wd.cmp_lt _ _ h1]; rfl, rfl⟩
  · by_cases h2 : y < x
    · go_enter Try.func36, Try.ntmps36
      go_wp2_with fail
      ((with_reducible refine (nan_u x _).mono ?_); rintro e w' ⟨rfl, rfl⟩)
      go_wp2_with fail
      ((with_reducible refine (nan_u y _).mono ?_); rintro e w' ⟨rfl, rfl⟩)
      go_wp2
      go_ret
      exact ⟨by rw [← HC.out, Wd.cmp_gt _ _ h2]; rfl, rfl⟩
    · obtain rfl : x = y := by omega
      go_enter Try.func36, Try.ntmps36
      go_wp2_with fail
      ((with_reducible refine (nan_u x _).mono ?_); rintro e w' ⟨rfl, rfl⟩)
      go_wp2_with fail
      ((with_reducible refine (nan_u x _).mono ?_); rintro e w' ⟨rfl, rfl⟩)
      go_wp2
      go_ret
      exact ⟨by rw [← HC.out, Wd.cmp_eq]; rfl, rfl⟩

/-- The first of three that is not 0. -/
def fst3 (a b c : Int) : Int := if a ≠ 0 then a else if b ≠ 0 then b else c
set_option maxHeartbeats 2000000 in
theorem or3 (g n : Nat) (a b c : Int) (w : World) (h0 : w.cell? ⟨g, 0, none⟩ = some (.int .i64 a)) (h1 : w.cell? ⟨g, 1, none⟩ = some (.int .i64 b)) (h2 : w.cell? ⟨g, 2, none⟩ = some (.int .i64 c)) :
    Calls Try.prog 34 #[.slice (some ⟨g, 0, none⟩) 3 n] w fun e w' => e = .returned (.int .i64 (fst3 a b c)) ∧ w = w' := by
  have hf : ∀ k : Nat, k < 3 → w.cell? ⟨g, k, none⟩ = some (.int .i64 (if k = 0 then a else if k = 1 then b else c)) := fun k hk => by
    rcases (show k = 0 ∨ k = 1 ∨ k = 2 by omega) with rfl | rfl | rfl
    · exact h0
    · exact h1
    · exact h2
  have HF := Lib.hid hf
  clear hf h0 h1 h2
  go_enter Try.func34, Try.ntmps34
  go_wp2
  go_loop [8] (fun i => ∃ k : Nat, k ≤ 3 ∧ i = .int .i64 k ∧ ∀ j, j < k → (if j = 0 then a else if j = 1 then b else c) = 0) (fun i => 3 - (intOf i).toNat)
  case atStart => exact ⟨0, by omega, rfl, fun j hj => by omega⟩
  case round =>
    obtain ⟨k, hk, rfl, hz⟩ := hrel
    have HZ := Lib.hid hz
    clear hz
    by_cases hlt : k < 3
    · have hg := HF.out k hlt
      by_cases hx : (if k = 0 then a else if k = 1 then b else c) = 0
      · rw [hx] at hg
        have HX := Lib.hid hx
        clear hx
        go_wp2
        go_round
        case rel => exact ⟨k + 1, by omega, by go_num, fun j hj => by
          rcases Nat.lt_or_ge j k with h | h
          · exact HZ.out j h
          · rw [show j = k by omega]; exact HX.out⟩
        case measure => simp [intOf]; omega
      · have HE : Hid ((if k = 0 then a else if k = 1 then b else c) = fst3 a b c) := Lib.hid (by
          have q0 := HZ.out 0
          have q1 := HZ.out 1
          unfold fst3
          rcases (show k = 0 ∨ k = 1 ∨ k = 2 by omega) with rfl | rfl | rfl
          · simp at hx ⊢; simp [hx]
          · simp at hx q0 ⊢; simp [hx, q0]
          · simp at hx q0 q1 ⊢; simp [q0, q1])
        generalize (if k = 0 then a else if k = 1 then b else c) = x at *
        have hx' : ((x : Int) != 0) = true := by simpa using hx
        go_wp2
        go_ret
        exact ⟨congrArg Ending.returned (congrArg (Value.int IntKind.i64) HE.out), rfl⟩
    · have HE : Hid (0 = fst3 a b c) := Lib.hid (by
        have q0 := HZ.out 0 (by omega)
        have q1 := HZ.out 1 (by omega)
        have q2 := HZ.out 2 (by omega)
        simp at q0 q1 q2
        unfold fst3
        simp [q0, q1, q2])
      go_wp2
      go_ret
      exact ⟨congrArg Ending.returned (congrArg (Value.int IntKind.i64) HE.out), rfl⟩
theorem sh_wrap (z : Int) : IntKind.i64.wrap (Wd.hi z) = Wd.sh z := by
  have := Wd.hi_wo z
  unfold Wd.Wo at this
  unfold Wd.sh
  simp [IntKind.wrap, IntKind.bits, IntKind.signed]
  split <;> omega
theorem flip_same {f : Nat} {args : Array Value} {w : World} {v : Value} (h : Calls Try.prog f args w fun e w' => e = .returned v ∧ w = w') : Calls Try.prog f args w fun e w' => e = .returned v ∧ w' = w :=
  h.mono fun _ _ ⟨a, b⟩ => ⟨a, b.symm⟩
set_option maxHeartbeats 4000000 in
set_option maxRecDepth 100000 in
theorem compare (x y c : Int) (w : World) (hx : Wd.Sg x) (hy : Wd.Sg y) (hc : Wd.cmp x y = c) :
    Calls Try.prog 21 #[wv x, wv y] w fun e w' => e = .returned (.int .i64 c) ∧ Below w.heap.size w w' := by
  have e1 := sh_wrap x
  have e2 := sh_wrap y
  have HC := Lib.hid ((Wd.cmp_or x y hx hy).symm.trans hc)
  clear hx hy hc
  unfold wv wr
  generalize Wd.sh x = x3 at *
  generalize Wd.sh y = y3 at *
  generalize Wd.lo x = x0 at *
  generalize Wd.lo y = y0 at *
  generalize Wd.mi x = x1 at *
  generalize Wd.mi y = y1 at *
  generalize Wd.hi x = x2 at *
  generalize Wd.hi y = y2 at *
  go_enter Try.func21, Try.ntmps21
  go_wp2
  have B0 : Below w.heap.size w ((w.alloc (.cells #[.int .u64 x0, .int .u64 x1, .int .u64 x2] 25)).alloc (.cells #[.int .u64 y0, .int .u64 y1, .int .u64 y2] 25)) := (up_new w _).alloc (by simp) _
  have R0 : ((w.alloc (.cells #[.int .u64 x0, .int .u64 x1, .int .u64 x2] 25)).alloc (.cells #[.int .u64 y0, .int .u64 y1, .int .u64 y2] 25)).heap[w.heap.size]? = some (.cells #[.int .u64 x0, .int .u64 x1, .int .u64 x2] 25 (0, 0)) := heap_alloc2_old _ _ _
  have R1 : ((w.alloc (.cells #[.int .u64 x0, .int .u64 x1, .int .u64 x2] 25)).alloc (.cells #[.int .u64 y0, .int .u64 y1, .int .u64 y2] 25)).heap[w.heap.size + 1]? = some (.cells #[.int .u64 y0, .int .u64 y1, .int .u64 y2] 25 (0, 0)) := heap_alloc2_new _ _ _
  generalize (w.alloc (.cells #[.int .u64 x0, .int .u64 x1, .int .u64 x2] 25)).alloc (.cells #[.int .u64 y0, .int .u64 y1, .int .u64 y2] 25) = W0 at *
  have HB0 := Lib.hid B0
  have q0 : W0.drew.cell? ⟨w.heap.size, 0, none⟩ = some (.int .u64 x0) := cell_of_row _ _ _ _ _ _ R0
  have q1 : W0.drew.cell? ⟨w.heap.size, 1, none⟩ = some (.int .u64 x1) := cell_of_row _ _ _ _ _ _ R0
  have q2 : W0.drew.cell? ⟨w.heap.size, 2, none⟩ = some (.int .u64 x2) := cell_of_row _ _ _ _ _ _ R0
  have q3 : W0.drew.cell? ⟨w.heap.size + 1, 0, none⟩ = some (.int .u64 y0) := cell_of_row _ _ _ _ _ _ R1
  have q4 : W0.drew.cell? ⟨w.heap.size + 1, 1, none⟩ = some (.int .u64 y1) := cell_of_row _ _ _ _ _ _ R1
  have q5 : W0.drew.cell? ⟨w.heap.size + 1, 2, none⟩ = some (.int .u64 y2) := cell_of_row _ _ _ _ _ _ R1
  clear B0 R0 R1
  refine wp_region_still_tail 17 (by kernel_rfl) (by kernel_rfl) ?_
  simp only [List.take_succ_cons, List.take_zero, List.drop_succ_cons, List.drop_zero]
  repeat still_step
  refine wpStill_step (fun K' hK => ?_)
  go_simp
  refine ⟨.int .i64 (Wd.cmp x3 y3), flip_same (cmp_i x3 y3 _ _ rfl), hK _ ?_⟩
  clear hK K'
  repeat still_step
  refine wpStill_step (fun K' hK => ?_)
  go_simp
  refine ⟨.int .i64 (Wd.cmp x1 y1), flip_same (cmp_u x1 y1 _ _ rfl), hK _ ?_⟩
  clear hK K'
  repeat still_step
  refine wpStill_step (fun K' hK => ?_)
  go_simp
  refine ⟨.int .i64 (Wd.cmp x0 y0), flip_same (cmp_u x0 y0 _ _ rfl), hK _ ?_⟩
  clear hK K'
  repeat still_step
  refine wpStill_nil ?_
  go_wp2_with fail
  ((with_reducible refine (or3 _ _ (Wd.cmp x3 y3) (Wd.cmp x1 y1) (Wd.cmp x0 y0) _ ?_ ?_ ?_).mono ?_))
  · exact cell_of_row _ _ _ _ _ _ (Go.heap_alloc_last W0 _)
  · exact cell_of_row _ _ _ _ _ _ (Go.heap_alloc_last W0 _)
  · exact cell_of_row _ _ _ _ _ _ (Go.heap_alloc_last W0 _)
  rintro e w' ⟨rfl, rfl⟩
  go_wp2
  go_ret
  exact ⟨congrArg Ending.returned (congrArg (Value.int IntKind.i64) HC.out), (HB0.out.alloc HB0.out.size _).drew⟩
end Go.Proofs.Ythlhfnafgjecaaa
