/- The chapter's examples ('works'). -/
import Derived.Test.YthlhfnafgjecaaaDot
namespace Go.Proofs.Ythlhfnafgjecaaa
open Go.RowKit
set_option linter.unusedVariables false

/-- Pairs, as cells. -/
def cells2 : List (Int × Int) → List Value
  | [] => []
  | p :: l => .int .i64 p.1 :: .int .i64 p.2 :: cells2 l
theorem cells2_get : ∀ (l : List (Int × Int)) (i : Nat) (p : Int × Int), l[i]? = some p → (cells2 l)[i * 2]? = some (.int .i64 p.1) ∧ (cells2 l)[i * 2 + 1]? = some (.int .i64 p.2)
  | [], i, p, h => by simp at h
  | q :: l, 0, p, h => by simp at h; subst h; simp [cells2]
  | q :: l, i + 1, p, h => by
    simp only [List.getElem?_cons_succ] at h
    have := cells2_get l i p h
    rw [show (i + 1) * 2 = i * 2 + 1 + 1 by omega]
    simpa [cells2] using this
theorem cells2_len : ∀ l : List (Int × Int), (cells2 l).length = l.length * 2
  | [] => rfl
  | p :: l => by simp only [cells2, List.length_cons, cells2_len l]; omega
/-- Pairs that are written out. -/
theorem rdp_lit (w : World) (l : List (Int × Int)) (cs : Array Value) (n : Nat) (hcs : cs = (cells2 l).toArray) (hn : n = l.length) (hm : l.length ≤ 1000) (hb : ∀ p ∈ l, Pok p) :
    RdP (w.alloc (.cells cs 28)) (w.alloc (.cells cs 28)).heap.size (.slice (some ⟨w.heap.size, 0, none⟩) n n) l := by
  subst hcs hn
  refine ⟨_, _, rfl, Nat.le_refl _, by simp only [maxLen]; omega, by simp, hb, fun _ => ⟨w.heap.size, 0, rfl, by simp, fun i p hi => ?_⟩⟩
  have h := cells2_get l i p hi
  have e := fun j => cell_of_row (w.alloc (.cells (cells2 l).toArray 28)) w.heap.size j _ 28 (0, 0) (Go.heap_alloc_last w _)
  rw [Nat.zero_add, e, e]
  simpa using h
theorem of_is (n : Int) (v : Value) (w : World) (h0 : -9223372036854775808 ≤ n) (h1 : n ≤ 9223372036854775807) (hv : wv n = v) :
    Calls Try.prog 23 #[.int .i64 n] w fun e w' => e = .returned v ∧ Below w.heap.size w w' := by subst hv; exact of_ n w h0 h1
theorem mul_is (a b : Int) (v : Value) (w : World) (a0 : -9223372036854775808 ≤ a) (a1 : a ≤ 9223372036854775807) (b0 : -9223372036854775808 ≤ b) (b1 : b ≤ 9223372036854775807) (hv : wv (a * b) = v) :
    Calls Try.prog 25 #[.int .i64 a, .int .i64 b] w fun e w' => e = .returned v ∧ Below w.heap.size w w' := by subst hv; exact mul a b w a0 a1 b0 b1
theorem int_is (z n e : Int) (v : Value) (w : World) (hz : Wd.Sg z) (hv : wv z = v) (hn : Wd.ck z = n) (he : Wd.ce z = e) :
    Calls Try.prog 18 #[v] w fun x w' => x = .returned (.tuple #[.int .i64 n, .int .i64 e]) ∧ Below w.heap.size w w' := by subst hv hn he; exact int_ z w hz
theorem plus_is (a b n e : Int) (w : World) (a0 : -9223372036854775808 ≤ a) (a1 : a ≤ 9223372036854775807) (b0 : -9223372036854775808 ≤ b) (b1 : b ≤ 9223372036854775807) (hn : Wd.ck (a + b) = n) (he : Wd.ce (a + b) = e) :
    Calls Try.prog 12 #[.int .i64 a, .int .i64 b] w fun x w' => x = .returned (.tuple #[.int .i64 n, .int .i64 e]) ∧ Below w.heap.size w w' := by subst hn he; exact plus a b w a0 a1 b0 b1
theorem minus_is (a b n e : Int) (w : World) (a0 : -9223372036854775808 ≤ a) (a1 : a ≤ 9223372036854775807) (b0 : -9223372036854775808 ≤ b) (b1 : b ≤ 9223372036854775807) (hn : Wd.ck (a - b) = n) (he : Wd.ce (a - b) = e) :
    Calls Try.prog 14 #[.int .i64 a, .int .i64 b] w fun x w' => x = .returned (.tuple #[.int .i64 n, .int .i64 e]) ∧ Below w.heap.size w w' := by subst hn he; exact minus a b w a0 a1 b0 b1
theorem times_is (a b n e : Int) (w : World) (a0 : -9223372036854775808 ≤ a) (a1 : a ≤ 9223372036854775807) (b0 : -9223372036854775808 ≤ b) (b1 : b ≤ 9223372036854775807) (hn : Wd.ck (a * b) = n) (he : Wd.ce (a * b) = e) :
    Calls Try.prog 16 #[.int .i64 a, .int .i64 b] w fun x w' => x = .returned (.tuple #[.int .i64 n, .int .i64 e]) ∧ Below w.heap.size w w' := by subst hn he; exact times a b w a0 a1 b0 b1
theorem dot_is (v : Value) (l : List (Int × Int)) (n e : Int) (w : World) (h : RdP w w.heap.size v l) (hn : Wd.ck (dot l) = n) (he : Wd.ce (dot l) = e) :
    Calls Try.prog 10 #[v] w fun x w' => x = .returned (.tuple #[.int .i64 n, .int .i64 e]) ∧ Below w.heap.size w w' := by subst hn he; exact dot_ v l w h
set_option maxHeartbeats 1000000 in
theorem is_yes (n e : Int) (w : World) : Calls Try.prog 31 #[.int .i64 n, .int .i64 e, .int .i64 n, .int .i64 e] w fun x w' => x = .returned (.bool true) ∧ w = w' := by
  go_enter Try.func31, Try.ntmps31
  go_wp2
  go_ret
  exact ⟨rfl, rfl⟩
theorem pok10 : ∀ p ∈ ([(9223372036854775807, 2), (-9223372036854775808, 1), (-1, 9223372036854775805)] : List (Int × Int)), Pok p := by unfold Pok; decide
theorem pok11 : ∀ p ∈ ([(-9223372036854775808, -1), (1, -1)] : List (Int × Int)), Pok p := by unfold Pok; decide
theorem pok12 : ∀ p ∈ ([(-9223372036854775808, -1)] : List (Int × Int)), Pok p := by unfold Pok; decide
set_option maxHeartbeats 4000000 in
set_option maxRecDepth 100000 in
theorem works (w : World) : Calls Try.prog 11 #[] w fun e w' => e = .returned (.bool true) ∧ Below w.heap.size w w' := by
  have c1 := Lib.hid (fun w => of_is (-1) (.agg #[.int .u64 18446744073709551615, .int .u64 18446744073709551615, .int .u64 18446744073709551615]) w (by omega) (by omega) (by kernel_rfl))
  have c2 := Lib.hid (fun w => mul_is (-9223372036854775808) (-9223372036854775808) (.agg #[.int .u64 0, .int .u64 4611686018427387904, .int .u64 0]) w (by omega) (by omega) (by omega) (by omega) (by kernel_rfl))
  have c3 := Lib.hid (fun w => int_is 9223372036854775808 0 50 (.agg #[.int .u64 9223372036854775808, .int .u64 0, .int .u64 0]) w (by unfold Wd.Sg; omega) (by kernel_rfl) (by kernel_rfl) (by kernel_rfl))
  have c4 := Lib.hid (fun w => of_ (-9223372036854775808) w (by omega) (by omega))
  have c5 := Lib.hid (fun w => int_is (-9223372036854775808) (-9223372036854775808) 0 _ w (by unfold Wd.Sg; omega) rfl (by kernel_rfl) (by kernel_rfl))
  have c6 := Lib.hid (fun w => plus_is 9223372036854775807 1 0 50 w (by omega) (by omega) (by omega) (by omega) (by kernel_rfl) (by kernel_rfl))
  have c7 := Lib.hid (fun w => minus_is (-9223372036854775808) 1 0 50 w (by omega) (by omega) (by omega) (by omega) (by kernel_rfl) (by kernel_rfl))
  have c8 := Lib.hid (fun w => times_is (-9223372036854775808) (-1) 0 50 w (by omega) (by omega) (by omega) (by omega) (by kernel_rfl) (by kernel_rfl))
  have c9 := Lib.hid (fun w => times_is 4294967296 (-2147483648) (-9223372036854775808) 0 w (by omega) (by omega) (by omega) (by omega) (by kernel_rfl) (by kernel_rfl))
  have i1 := Lib.hid (fun w => is_yes 0 50 w)
  have i2 := Lib.hid (fun w => is_yes (-9223372036854775808) 0 w)
  have i3 := Lib.hid (fun w => is_yes 1 0 w)
  have i4 := Lib.hid (fun w => is_yes 9223372036854775807 0 w)
  go_enter Try.func11, Try.ntmps11
  go_wp2_with fail
  ((with_reducible refine (c1.out _).mono ?_); rintro e w1 ⟨rfl, b1⟩)
  go_wp2_with fail
  ((with_reducible refine (c2.out _).mono ?_); rintro e w2 ⟨rfl, b2⟩)
  have B2 := Lib.hid (up b1 b2)
  clear b1 b2
  go_wp2_with fail
  ((with_reducible refine (c3.out _).mono ?_); rintro e w3 ⟨rfl, b3⟩)
  go_wp2_with fail
  ((with_reducible refine (c4.out _).mono ?_); rintro e w4 ⟨rfl, b4⟩)
  have B4 := Lib.hid (up B2.out (up b3 b4))
  clear b3 b4
  go_wp2_with fail
  ((with_reducible refine (c5.out _).mono ?_); rintro e w5 ⟨rfl, b5⟩)
  have B5 := Lib.hid (up B4.out b5)
  clear b5
  go_wp2_with fail
  ((with_reducible refine (i1.out _).mono ?_); rintro e w' ⟨rfl, rfl⟩)
  go_wp2_with fail
  ((with_reducible refine (i2.out _).mono ?_); rintro e w' ⟨rfl, rfl⟩)
  go_wp2_with fail
  ((with_reducible refine (c6.out _).mono ?_); rintro e w6 ⟨rfl, b6⟩)
  go_wp2_with fail
  ((with_reducible refine (c7.out _).mono ?_); rintro e w7 ⟨rfl, b7⟩)
  have B7 := Lib.hid (up B5.out (up b6 b7))
  clear b6 b7
  go_wp2_with fail
  ((with_reducible refine (c8.out _).mono ?_); rintro e w8 ⟨rfl, b8⟩)
  go_wp2_with fail
  ((with_reducible refine (c9.out _).mono ?_); rintro e w9 ⟨rfl, b9⟩)
  have B9 := Lib.hid (up B7.out (up b8 b9))
  clear b8 b9
  iterate 3
    go_wp2_with fail
    ((with_reducible refine (i1.out _).mono ?_); rintro e w' ⟨rfl, rfl⟩)
  go_wp2_with fail
  ((with_reducible refine (i2.out _).mono ?_); rintro e w' ⟨rfl, rfl⟩)
  go_wp2_with fail
  have P10 := rdp_lit w9 [(9223372036854775807, 2), (-9223372036854775808, 1), (-1, 9223372036854775805)] #[.int .i64 9223372036854775807, .int .i64 2, .int .i64 (-9223372036854775808), .int .i64 1, .int .i64 (-1), .int .i64 9223372036854775805] 3 rfl rfl (by decide) pok10
  have HN10 := Lib.hid (up_new w9 (.cells #[.int .i64 9223372036854775807, .int .i64 2, .int .i64 (-9223372036854775808), .int .i64 1, .int .i64 (-1), .int .i64 9223372036854775805] 28))
  ((with_reducible refine (dot_is _ [(9223372036854775807, 2), (-9223372036854775808, 1), (-1, 9223372036854775805)] 1 0 _ P10 (by kernel_rfl) (by kernel_rfl)).mono ?_); rintro e w10 ⟨rfl, b10⟩)
  have B10 := Lib.hid (up (up B9.out HN10.out) b10)
  clear b10 HN10 P10
  go_wp2_with fail
  have P11 := rdp_lit w10 [(-9223372036854775808, -1), (1, -1)] #[.int .i64 (-9223372036854775808), .int .i64 (-1), .int .i64 1, .int .i64 (-1)] 2 rfl rfl (by decide) pok11
  have HN11 := Lib.hid (up_new w10 (.cells #[.int .i64 (-9223372036854775808), .int .i64 (-1), .int .i64 1, .int .i64 (-1)] 28))
  ((with_reducible refine (dot_is _ [(-9223372036854775808, -1), (1, -1)] 9223372036854775807 0 _ P11 (by kernel_rfl) (by kernel_rfl)).mono ?_); rintro e w11 ⟨rfl, b11⟩)
  have B11 := Lib.hid (up (up B10.out HN11.out) b11)
  clear b11 HN11 P11
  go_wp2_with fail
  have P12 := rdp_lit w11 [(-9223372036854775808, -1)] #[.int .i64 (-9223372036854775808), .int .i64 (-1)] 1 rfl rfl (by decide) pok12
  have HN12 := Lib.hid (up_new w11 (.cells #[.int .i64 (-9223372036854775808), .int .i64 (-1)] 28))
  ((with_reducible refine (dot_is _ [(-9223372036854775808, -1)] 0 50 _ P12 (by kernel_rfl) (by kernel_rfl)).mono ?_); rintro e w12 ⟨rfl, b12⟩)
  have B12 := Lib.hid (up (up B11.out HN12.out) b12)
  clear b12 HN12 P12
  go_wp2_with fail
  ((with_reducible refine (i3.out _).mono ?_); rintro e w' ⟨rfl, rfl⟩)
  go_wp2_with fail
  ((with_reducible refine (i4.out _).mono ?_); rintro e w' ⟨rfl, rfl⟩)
  go_wp2_with fail
  ((with_reducible refine (i1.out _).mono ?_); rintro e w' ⟨rfl, rfl⟩)
  go_wp2
  go_ret
  exact ⟨rfl, B12.out⟩
end Go.Proofs.Ythlhfnafgjecaaa
