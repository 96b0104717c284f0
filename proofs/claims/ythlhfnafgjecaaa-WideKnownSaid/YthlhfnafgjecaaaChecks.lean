/- The walks of WideChecks and WideFits. -/
import Derived.Test.YthlhfnafgjecaaaWorks
import Derived.Test.YthlhfnafgjecaaaRint
import Derived.Deep.RegionHeld3
namespace Go.Proofs.Ythlhfnafgjecaaa
open Go.RowKit
set_option linter.unusedVariables false

set_option maxHeartbeats 4000000 in
set_option maxRecDepth 100000 in
theorem wideChecks (a b : Int) (w : World) (a0 : -9223372036854775808 ≤ a) (a1 : a ≤ 9223372036854775807) (b0 : -9223372036854775808 ≤ b) (b1 : b ≤ 9223372036854775807) :
    Calls Try.prog 4 #[.int .i64 a, .int .i64 b] w fun e w' => e = .returned (.bool true) ∧ Below w.heap.size w w' := by
  have c0 := Lib.hid (fun w => plus a b w a0 a1 b0 b1)
  have c1 := Lib.hid (fun w => rplus a b w a0 a1 b0 b1)
  have c2 := Lib.hid (fun w => minus a b w a0 a1 b0 b1)
  have c3 := Lib.hid (fun w => rminus a b w a0 a1 b0 b1)
  have c4 := Lib.hid (fun w => times a b w a0 a1 b0 b1)
  have c5 := Lib.hid (fun w => rtimes a b w a0 a1 b0 b1)
  clear a0 a1 b0 b1
  generalize Wd.ck (a + b) = k0 at *
  generalize Wd.ce (a + b) = e0 at *
  generalize Wd.ck (a - b) = k1 at *
  generalize Wd.ce (a - b) = e1 at *
  generalize Wd.ck (a * b) = k2 at *
  generalize Wd.ce (a * b) = e2 at *
  go_enter Try.func4, Try.ntmps4
  go_wp2_with fail
  ((with_reducible refine (c0.out _).mono ?_); rintro e w1 ⟨rfl, b1⟩)
  have B1 := Lib.hid b1
  clear b1
  go_wp2_with fail
  ((with_reducible refine (c1.out _).mono ?_); rintro e w2 ⟨rfl, b2⟩)
  have B2 := Lib.hid (up B1.out b2)
  clear b2
  go_wp2_with fail
  ((with_reducible refine (c2.out _).mono ?_); rintro e w3 ⟨rfl, b3⟩)
  have B3 := Lib.hid (up B2.out b3)
  clear b3
  go_wp2_with fail
  ((with_reducible refine (c3.out _).mono ?_); rintro e w4 ⟨rfl, b4⟩)
  have B4 := Lib.hid (up B3.out b4)
  clear b4
  go_wp2_with fail
  ((with_reducible refine (c4.out _).mono ?_); rintro e w5 ⟨rfl, b5⟩)
  have B5 := Lib.hid (up B4.out b5)
  clear b5
  go_wp2_with fail
  ((with_reducible refine (c5.out _).mono ?_); rintro e w6 ⟨rfl, b6⟩)
  have B6 := Lib.hid (up B5.out b6)
  clear b6
  go_wp2_with fail
  ((with_reducible refine (works _).mono ?_); rintro e w7 ⟨rfl, b7⟩)
  have B7 := Lib.hid (up B6.out b7)
  clear b7
  go_wp2
  go_ret
  exact ⟨rfl, B7.out⟩
theorem V3.lie2 {W w : World} {g : Nat} {x y z : Value} (h : V3 W g x y z w) : w.cell? ⟨g, 0, none⟩ = some x ∧ w.cell? ⟨g, 1, none⟩ = some y ∧ w.cell? ⟨g, 2, none⟩ = some z := h.keep.2
set_option maxHeartbeats 4000000 in
set_option maxRecDepth 100000 in
theorem wideFits (x n : Int) (w : World) (hx : Wd.Sg x) (n0 : -9223372036854775808 ≤ n) (n1 : n ≤ 9223372036854775807) :
    Calls Try.prog 7 #[wv x, .int .i64 n] w fun e w' => e = .returned (.bool true) ∧ Below w.heap.size w w' := by
  have c0 := Lib.hid (fun w => of_ n w n0 n1)
  have c1 := Lib.hid (fun w => int_is n n 0 (wv n) w (by unfold Wd.Sg; omega) rfl (Wd.ck_yes n ⟨n0, n1⟩) (Wd.ce_yes n ⟨n0, n1⟩))
  have H0 := Lib.hid (V3.new w (.int .u64 (Wd.lo x)) (.int .u64 (Wd.mi x)) (.int .u64 (Wd.hi x)))
  clear n0 n1
  by_cases hf : Wd.F64 x
  · have c2 := fun w => int_is x x 0 (wv x) w hx rfl (Wd.ck_yes x hf) (Wd.ce_yes x hf)
    have c3 := fun w => of_ x w hf.1 hf.2
    clear hf hx
    unfold wv wr at c2 c3 ⊢
    go_enter Try.func7, Try.ntmps7
    go_wp2_with fail
    generalize w.alloc (.cells #[.int .u64 (Wd.lo x), .int .u64 (Wd.mi x), .int .u64 (Wd.hi x)] 25) = W0 at *
    ((with_reducible refine (c0.out _).mono ?_); rintro e w1 ⟨rfl, b1⟩)
    have H1 := Lib.hid (V3.later H0.out b1)
    clear b1
    go_wp2_with fail
    ((with_reducible refine (c1.out _).mono ?_); rintro e w2 ⟨rfl, b2⟩)
    have H2 := Lib.hid (V3.later H1.out b2)
    obtain ⟨q0, q1, q2⟩ := V3.lie2 H2.out
    clear b2 H1 H0
    go_wp2_with fail
    ((with_reducible refine (c2 _).mono ?_); rintro e w3 ⟨rfl, b3⟩)
    have H3 := Lib.hid (V3.later H2.out b3)
    clear b3 q0 q1 q2 H2
    go_wp2_with fail
    go_region_held3 (fun w' => V3 w w.heap.size (.int .u64 (Wd.lo x)) (.int .u64 (Wd.mi x)) (.int .u64 (Wd.hi x)) w' ∧ w'.cell? ⟨w.heap.size, 0, none⟩ = some (.int .u64 (Wd.lo x)) ∧ w'.cell? ⟨w.heap.size, 1, none⟩ = some (.int .u64 (Wd.mi x)) ∧ w'.cell? ⟨w.heap.size, 2, none⟩ = some (.int .u64 (Wd.hi x)))
      (first | exact V3.keep H3.out | exact V3.keep (V3.later H3.out ((Below.refl _ _).drew)) | exact V3.keep (V3.later (And.left (by assumption)) (by assumption)))
      (first
        | (go_at_call 23; (with_reducible refine (c3 _).mono ?_); rintro e w4 ⟨rfl, b4⟩)
        | (go_at_call 11; (with_reducible refine (works _).mono ?_); rintro e w5 ⟨rfl, b5⟩))
    have HB := Lib.hid (V3.later (V3.later (V3.later H3.out (Below.refl _ _).drew) b4) b5).1
    clear b4 b5 H3
    go_wp2
    go_ret
    exact ⟨rfl, HB.out⟩
  · have c2 := fun w => int_is x 0 50 (wv x) w hx rfl (Wd.ck_no x hf) (Wd.ce_no x hf)
    have HX := Lib.hid (show ¬ (Wd.mi x = 0 ∧ Wd.lo x / 9223372036854775808 ≠ 1 ∧ Wd.hi x = 0) from fun ⟨e1, e2, e3⟩ => hf (by unfold Wd.mi Wd.lo Wd.hi Wd.Sg Wd.F64 at *; omega))
    have w0 := Wd.lo_wo x
    have w1 := Wd.mi_wo x
    have w2 := Wd.hi_wo x
    clear hf hx
    unfold wv wr at c2 ⊢
    generalize Wd.lo x = a at *
    generalize Wd.mi x = b at *
    generalize Wd.hi x = c at *
    have fin : b ≠ 0 ∨ (b = 0 ∧ a / 9223372036854775808 = 1) ∨ (b = 0 ∧ a / 9223372036854775808 ≠ 1 ∧ c ≠ 0) := by have := HX.out; omega
    clear HX
    rcases fin with h | ⟨rfl, h⟩ | ⟨rfl, h, h2⟩
    · have hb : ((b : Int) != 0) = true := by simpa using h
      go_enter Try.func7, Try.ntmps7
      go_wp2_with fail
      generalize w.alloc (.cells #[.int .u64 a, .int .u64 b, .int .u64 c] 25) = W0 at *
      ((with_reducible refine (c0.out _).mono ?_); rintro e w1 ⟨rfl, b1⟩)
      have H1 := Lib.hid (V3.later H0.out b1)
      clear b1
      go_wp2_with fail
      ((with_reducible refine (c1.out _).mono ?_); rintro e w2 ⟨rfl, b2⟩)
      have H2 := Lib.hid (V3.later H1.out b2)
      obtain ⟨q0, q1, q2⟩ := V3.lie2 H2.out
      clear b2 H1 H0
      go_wp2_with fail
      ((with_reducible refine (c2 _).mono ?_); rintro e w3 ⟨rfl, b3⟩)
      have H3 := Lib.hid (V3.later H2.out b3)
      obtain ⟨q3, q4, q5⟩ := V3.lie2 H3.out
      clear b3 q0 q1 q2 H2
      go_wp2_with fail
      ((with_reducible refine (works _).mono ?_); rintro e w4 ⟨rfl, b4⟩)
      have H4 := Lib.hid (up H3.out.1 b4)
      clear b4 H3
      go_wp2
      go_ret
      exact ⟨rfl, H4.out⟩
    · have ha : ((a / 9223372036854775808 : Int) == 1) = true := by simpa using h
      go_enter Try.func7, Try.ntmps7
      go_wp2_with fail
      generalize w.alloc (.cells #[.int .u64 a, .int .u64 0, .int .u64 c] 25) = W0 at *
      ((with_reducible refine (c0.out _).mono ?_); rintro e w1 ⟨rfl, b1⟩)
      have H1 := Lib.hid (V3.later H0.out b1)
      clear b1
      go_wp2_with fail
      ((with_reducible refine (c1.out _).mono ?_); rintro e w2 ⟨rfl, b2⟩)
      have H2 := Lib.hid (V3.later H1.out b2)
      obtain ⟨q0, q1, q2⟩ := V3.lie2 H2.out
      clear b2 H1 H0
      go_wp2_with fail
      ((with_reducible refine (c2 _).mono ?_); rintro e w3 ⟨rfl, b3⟩)
      have H3 := Lib.hid (V3.later H2.out b3)
      obtain ⟨q3, q4, q5⟩ := V3.lie2 H3.out
      clear b3 q0 q1 q2 H2
      go_wp2_with fail
      ((with_reducible refine (works _).mono ?_); rintro e w4 ⟨rfl, b4⟩)
      have H4 := Lib.hid (up H3.out.1 b4)
      clear b4 H3
      go_wp2
      go_ret
      exact ⟨rfl, H4.out⟩
    · have ha : ((a / 9223372036854775808 : Int) == 1) = false := by simpa using h
      have hc : ((c : Int) != 0) = true := by simpa using h2
      go_enter Try.func7, Try.ntmps7
      go_wp2_with fail
      generalize w.alloc (.cells #[.int .u64 a, .int .u64 0, .int .u64 c] 25) = W0 at *
      ((with_reducible refine (c0.out _).mono ?_); rintro e w1 ⟨rfl, b1⟩)
      have H1 := Lib.hid (V3.later H0.out b1)
      clear b1
      go_wp2_with fail
      ((with_reducible refine (c1.out _).mono ?_); rintro e w2 ⟨rfl, b2⟩)
      have H2 := Lib.hid (V3.later H1.out b2)
      obtain ⟨q0, q1, q2⟩ := V3.lie2 H2.out
      clear b2 H1 H0
      go_wp2_with fail
      ((with_reducible refine (c2 _).mono ?_); rintro e w3 ⟨rfl, b3⟩)
      have H3 := Lib.hid (V3.later H2.out b3)
      obtain ⟨q3, q4, q5⟩ := V3.lie2 H3.out
      clear b3 q0 q1 q2 H2
      go_wp2_with fail
      ((with_reducible refine (works _).mono ?_); rintro e w4 ⟨rfl, b4⟩)
      have H4 := Lib.hid (up H3.out.1 b4)
      clear b4 H3
      go_wp2
      go_ret
      exact ⟨rfl, H4.out⟩
end Go.Proofs.Ythlhfnafgjecaaa
