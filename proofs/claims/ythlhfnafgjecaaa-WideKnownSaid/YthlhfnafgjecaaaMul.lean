/- Mul of the program. -/
import Derived.Test.YthlhfnafgjecaaaNeg
import Derived.Test.YthlhfnafgjecaaaShelf
namespace Go.Proofs.Ythlhfnafgjecaaa
open Go.RowKit
set_option linter.unusedVariables false

/-- The product of two numbers without their signs. -/
def ab (a b : Int) : Int := ((a.natAbs * b.natAbs : Nat) : Int)
theorem ab_lt (a b : Int) (a0 : -9223372036854775808 ≤ a) (a1 : a ≤ 9223372036854775807) (b0 : -9223372036854775808 ≤ b) (b1 : b ≤ 9223372036854775807) : 0 ≤ ab a b ∧ ab a b ≤ 85070591730234615865843651857942052864 := by
  have h : a.natAbs * b.natAbs ≤ 9223372036854775808 * 9223372036854775808 := Nat.mul_le_mul (by omega) (by omega)
  unfold ab
  omega
theorem ab_same (a b : Int) (h : (a < 0) = (b < 0)) : ab a b = a * b := by
  unfold ab
  rw [Int.natCast_mul]
  by_cases ha : a < 0
  · have hb : b < 0 := h ▸ ha
    rw [show (a.natAbs : Int) = -a by omega, show (b.natAbs : Int) = -b by omega, Int.neg_mul_neg]
  · have hb : ¬ b < 0 := h ▸ ha
    rw [show (a.natAbs : Int) = a by omega, show (b.natAbs : Int) = b by omega]
theorem ab_other (a b : Int) (h : (a < 0) ≠ (b < 0)) : -ab a b = a * b := by
  unfold ab
  rw [Int.natCast_mul]
  by_cases ha : a < 0
  · have hb : ¬ b < 0 := fun hb => h (by simp [ha, hb])
    rw [show (a.natAbs : Int) = -a by omega, show (b.natAbs : Int) = b by omega, Int.neg_mul, Int.neg_neg]
  · have hb : b < 0 := Decidable.byContradiction fun hb => h (by simp [ha, hb])
    rw [show (a.natAbs : Int) = a by omega, show (b.natAbs : Int) = -b by omega, Int.mul_neg, Int.neg_neg]
theorem mul64 (a b : Int) (w : World) (a0 : -9223372036854775808 ≤ a) (a1 : a ≤ 9223372036854775807) (b0 : -9223372036854775808 ≤ b) (b1 : b ≤ 9223372036854775807) :
    Calls Try.prog 37 #[.int .u64 (a.natAbs : Nat), .int .u64 (b.natAbs : Nat)] w fun e w' => e = .returned (.tuple #[.int .u64 (Wd.mi (ab a b)), .int .u64 (Wd.lo (ab a b))]) ∧ w = w' := by
  have h := ab_lt a b a0 a1 b0 b1
  refine (Try.bits_Mul64 a.natAbs b.natAbs (by omega) (by omega) w).mono ?_
  rintro e w' ⟨rfl, rfl⟩
  refine ⟨?_, rfl⟩
  unfold ab at *
  generalize a.natAbs * b.natAbs = p at *
  rw [show ((p / 18446744073709551616 : Nat) : Int) = Wd.mi (p : Int) by unfold Wd.mi; omega, show ((p % 18446744073709551616 : Nat) : Int) = Wd.lo (p : Int) by unfold Wd.lo; omega]
theorem wv_two (p : Int) (h : 0 ≤ p ∧ p ≤ 85070591730234615865843651857942052864) : Value.agg #[.int .u64 (Wd.lo p), .int .u64 (Wd.mi p), .int .u64 0] = wv p := by
  unfold wv wr
  rw [show Wd.hi p = 0 by unfold Wd.hi; omega]
theorem wr_one (z : Int) : (wr z).all (·.oneCell') = true := by simp [wr, Value.oneCell']
theorem neg_is (x z : Int) (w : World) (h : -x = z) : Calls Try.prog 9 #[wv x] w fun e w' => e = .returned (wv z) ∧ Below w.heap.size w w' := by subst h; exact neg x w
set_option maxHeartbeats 2000000 in
theorem mul (a b : Int) (w : World) (a0 : -9223372036854775808 ≤ a) (a1 : a ≤ 9223372036854775807) (b0 : -9223372036854775808 ≤ b) (b1 : b ≤ 9223372036854775807) :
    Calls Try.prog 25 #[.int .i64 a, .int .i64 b] w fun e w' => e = .returned (wv (a * b)) ∧ Below w.heap.size w w' := by
  have c0 := fun w => size a w a0 a1
  have c1 := fun w => size b w b0 b1
  have c2 := fun w => mul64 a b w a0 a1 b0 b1
  have HP := Lib.hid (wv_two _ (ab_lt a b a0 a1 b0 b1))
  have HS := fun h => Lib.hid (ab_same a b h)
  have HO := fun h => Lib.hid (ab_other a b h)
  clear a0 a1 b0 b1
  by_cases hab : (a < 0) = (b < 0)
  · have hs := HS hab
    clear HS HO
    generalize ab a b = p at *
    go_enter Try.func25, Try.ntmps25
    go_wp2_with fail
    ((with_reducible refine (c0 _).mono ?_); rintro e w' ⟨rfl, rfl⟩)
    go_wp2_with fail
    ((with_reducible refine (c1 _).mono ?_); rintro e w' ⟨rfl, rfl⟩)
    go_wp2_with fail
    ((with_reducible refine (c2 _).mono ?_); rintro e w' ⟨rfl, rfl⟩)
    go_wp2_with fail
    simp [bodyPost, results, Try.results25, go_sem]
    exact ⟨by rw [← hs.out]; exact HP.out, (up_new w _).alloc (by simp) _⟩
  · have hs := HO hab
    have hd : (decide (a < 0) == decide (b < 0)) = false := by
      rw [beq_eq_false_iff_ne]
      intro h
      exact hab (propext (by simpa using h))
    have N := fun w => neg_is (ab a b) (a * b) w hs.out
    clear HS HO hab
    generalize ab a b = p at *
    generalize a * b = z at *
    have Z : Hid (Value.agg #[.int .u64 (Wd.lo p), .int .u64 (Wd.mi p), .int .u64 0] = wv p) := HP
    go_enter Try.func25, Try.ntmps25
    go_wp2_with fail
    ((with_reducible refine (c0 _).mono ?_); rintro e w' ⟨rfl, rfl⟩)
    go_wp2_with fail
    ((with_reducible refine (c1 _).mono ?_); rintro e w' ⟨rfl, rfl⟩)
    go_wp2_with fail
    ((with_reducible refine (c2 _).mono ?_); rintro e w' ⟨rfl, rfl⟩)
    go_wp2_with fail
    rw [Z.out]
    have R0 := heap_alloc2_old w (.cells #[.int .u64 0, .int .u64 0, .int .u64 0] 25) (.cells #[.int .u64 (Wd.lo p), .int .u64 (Wd.mi p), .int .u64 0] 25)
    have B0 := (up_new w (.cells #[.int .u64 0, .int .u64 0, .int .u64 0] 25)).alloc (by simp) (.cells #[.int .u64 (Wd.lo p), .int .u64 (Wd.mi p), .int .u64 0] 25)
    ((with_reducible refine (N _).mono ?_); rintro e w1 ⟨rfl, b1⟩)
    have R1 := Lib.hid (below_row b1 R0 (Nat.le_refl _))
    have B1 := up B0 b1
    have B2 := Lib.hid (Below.setRow' B1 (g := w.heap.size) (by omega) (wr z))
    have R2 := Lib.hid (setRow_heap _ _ _ (wr z) _ _ R1.out)
    clear R0 B0 b1 B1
    have E : Hid (wv z = .agg (wr z)) := Lib.hid rfl
    rw [E.out]
    have q1 : Hid ((wr z).size = 3) := Lib.hid rfl
    have q2 : Hid ((wr z).all (·.oneCell') = true) := Lib.hid (wr_one z)
    generalize wr z = cz at *
    go_wp2_with (refine wpList_store_row rfl 25 (.tmp 4) (.tmp 25) rfl w.heap.size cz rfl rfl 25 _ R1.out (by rw [q1.out]; exact info_wide) (by rw [q1.out]; rfl) q2.out ?_)
    (try simp only [Exit.inBlock, Exit.then])
    refine bodyPost_ret (v := .agg cz) ?_ rfl ⟨congrArg Ending.returned E.out.symm, B2.out⟩
    exact results_cell_row rfl _ _ w.heap.size 25 _ _ _ rfl R2.out Try.underlying25 rfl (by rw [q1.out]; exact info_wide)
end Go.Proofs.Ythlhfnafgjecaaa
