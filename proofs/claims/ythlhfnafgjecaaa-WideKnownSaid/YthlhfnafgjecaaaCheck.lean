/- Plus, Minus, Times and Dot of the program. -/
import Derived.Test.YthlhfnafgjecaaaComp
namespace Go.Proofs.Ythlhfnafgjecaaa
open Go.RowKit
set_option linter.unusedVariables false

set_option maxHeartbeats 1000000 in
theorem plus (a b : Int) (w : World) (a0 : -9223372036854775808 ≤ a) (a1 : a ≤ 9223372036854775807) (b0 : -9223372036854775808 ≤ b) (b1 : b ≤ 9223372036854775807) :
    Calls Try.prog 12 #[.int .i64 a, .int .i64 b] w fun e w' => e = .returned (.tuple #[.int .i64 (Wd.ck (a + b)), .int .i64 (Wd.ce (a + b))]) ∧ Below w.heap.size w w' := by
  have c0 := fun w => of_ a w a0 a1
  have c1 := fun w => of_ b w b0 b1
  have c2 := fun w => add a b w
  have c3 := fun w => int_ (a + b) w (by unfold Wd.Sg; omega)
  clear a0 a1 b0 b1
  generalize a + b = z at *
  generalize wv a = va at *
  generalize wv b = vb at *
  generalize wv z = vz at *
  go_enter Try.func12, Try.ntmps12
  go_wp2_with fail
  ((with_reducible refine (c0 _).mono ?_); rintro e w1 ⟨rfl, b1⟩)
  go_wp2_with fail
  ((with_reducible refine (c1 _).mono ?_); rintro e w2 ⟨rfl, b2⟩)
  have B2 := up b1 b2
  clear b1 b2
  go_wp2_with fail
  ((with_reducible refine (c2 _).mono ?_); rintro e w3 ⟨rfl, b3⟩)
  have B3 := up B2 b3
  clear B2 b3
  go_wp2_with fail
  ((with_reducible refine (c3 _).mono ?_); rintro e w4 ⟨rfl, b4⟩)
  have B4 := up B3 b4
  clear B3 b4
  go_wp2
  go_ret2
  exact ⟨rfl, B4⟩
set_option maxHeartbeats 1000000 in
theorem minus (a b : Int) (w : World) (a0 : -9223372036854775808 ≤ a) (a1 : a ≤ 9223372036854775807) (b0 : -9223372036854775808 ≤ b) (b1 : b ≤ 9223372036854775807) :
    Calls Try.prog 14 #[.int .i64 a, .int .i64 b] w fun e w' => e = .returned (.tuple #[.int .i64 (Wd.ck (a - b)), .int .i64 (Wd.ce (a - b))]) ∧ Below w.heap.size w w' := by
  have c0 := fun w => of_ a w a0 a1
  have c1 := fun w => of_ b w b0 b1
  have c2 := fun w => neg b w
  have c3 := fun w => add_is a (-b) (a - b) w (by omega)
  have c4 := fun w => int_ (a - b) w (by unfold Wd.Sg; omega)
  clear a0 a1 b0 b1
  generalize a - b = z at *
  generalize wv a = va at *
  generalize wv b = vb at *
  generalize wv (-b) = vn at *
  generalize wv z = vz at *
  go_enter Try.func14, Try.ntmps14
  go_wp2_with fail
  ((with_reducible refine (c0 _).mono ?_); rintro e w1 ⟨rfl, b1⟩)
  go_wp2_with fail
  ((with_reducible refine (c1 _).mono ?_); rintro e w2 ⟨rfl, b2⟩)
  have B2 := up b1 b2
  clear b1 b2
  go_wp2_with fail
  ((with_reducible refine (c2 _).mono ?_); rintro e w3 ⟨rfl, b3⟩)
  have B3 := up B2 b3
  clear B2 b3
  go_wp2_with fail
  ((with_reducible refine (c3 _).mono ?_); rintro e w4 ⟨rfl, b4⟩)
  have B4 := up B3 b4
  clear B3 b4
  go_wp2_with fail
  ((with_reducible refine (c4 _).mono ?_); rintro e w5 ⟨rfl, b5⟩)
  have B5 := up B4 b5
  clear B4 b5
  go_wp2
  go_ret2
  exact ⟨rfl, B5⟩
theorem mul_sg (a b : Int) (a0 : -9223372036854775808 ≤ a) (a1 : a ≤ 9223372036854775807) (b0 : -9223372036854775808 ≤ b) (b1 : b ≤ 9223372036854775807) :
    -85070591730234615865843651857942052864 ≤ a * b ∧ a * b ≤ 85070591730234615865843651857942052864 := by
  have h := ab_lt a b a0 a1 b0 b1
  by_cases hab : (a < 0) = (b < 0)
  · rw [ab_same a b hab] at h; omega
  · have := ab_other a b hab; omega
set_option maxHeartbeats 1000000 in
theorem times (a b : Int) (w : World) (a0 : -9223372036854775808 ≤ a) (a1 : a ≤ 9223372036854775807) (b0 : -9223372036854775808 ≤ b) (b1 : b ≤ 9223372036854775807) :
    Calls Try.prog 16 #[.int .i64 a, .int .i64 b] w fun e w' => e = .returned (.tuple #[.int .i64 (Wd.ck (a * b)), .int .i64 (Wd.ce (a * b))]) ∧ Below w.heap.size w w' := by
  have hs := mul_sg a b a0 a1 b0 b1
  have c0 := fun w => mul a b w a0 a1 b0 b1
  have c1 := fun w => int_ (a * b) w (by unfold Wd.Sg; omega)
  clear a0 a1 b0 b1 hs
  generalize a * b = z at *
  generalize wv z = vz at *
  go_enter Try.func16, Try.ntmps16
  go_wp2_with fail
  ((with_reducible refine (c0 _).mono ?_); rintro e w1 ⟨rfl, b1⟩)
  go_wp2_with fail
  ((with_reducible refine (c1 _).mono ?_); rintro e w2 ⟨rfl, b2⟩)
  have B2 := up b1 b2
  clear b1 b2
  go_wp2
  go_ret2
  exact ⟨rfl, B2⟩
end Go.Proofs.Ythlhfnafgjecaaa
