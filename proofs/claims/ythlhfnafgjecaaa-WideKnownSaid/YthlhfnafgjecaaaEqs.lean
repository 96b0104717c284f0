/- Pairs, and digits, are what they are. -/
import Derived.Test.YthlhfnafgjecaaaMem
namespace Go.Proofs.Ythlhfnafgjecaaa
open Go.RowKit
set_option linter.unusedVariables false

set_option maxHeartbeats 2000000 in
theorem eq_pair (a b : Int) (w : World) : (Op.equal 28 (.agg #[.int .i64 a, .int .i64 b]) (.agg #[.int .i64 a, .int .i64 b])).run Try.prog w = .ok true w := by
  have hs : ∀ w, (Go.sizeOf 2).run Try.prog w = .ok 1 w := fun w => by kernel_rfl
  have hu : ∀ w, (underlying 28).run Try.prog w = .ok _ w := fun w => run_underlying Try.underlying28 w
  have hi : ∀ (a : Int) w, (Op.equalIn 9999 2 (.int .i64 a) (.int .i64 a)).run Try.prog w = .ok true w := fun a w => by rw [run_equalIn_int w 9998 _ _ _ a a Try.underlying2]; simp
  show (Op.equalIn (9999 + 1) _ _ _).run _ _ = _
  rw [Op.equalIn]
  simp [Sem.run_bind, hu, hs, hi, List.range', Go.part, Result.andThen]
set_option maxHeartbeats 2000000 in
theorem eq_six (z : Int) (w : World) : (Op.equal 43 (.agg (sr z)) (.agg (sr z))).run Try.prog w = .ok true w := by
  have hs : ∀ w, (Go.sizeOf 23).run Try.prog w = .ok 1 w := fun w => by kernel_rfl
  have hu : ∀ w, (underlying 43).run Try.prog w = .ok _ w := fun w => run_underlying Try.underlying43 w
  have hi : ∀ (a : Int) w, (Op.equalIn 9999 23 (.int .u64 a) (.int .u64 a)).run Try.prog w = .ok true w := fun a w => by rw [run_equalIn_int w 9998 _ _ _ a a Try.underlying23]; simp
  have hg := fun k hk => sr_get z k hk
  have g0 := hg 0 (by omega)
  have g1 := hg 1 (by omega)
  have g2 := hg 2 (by omega)
  have g3 := hg 3 (by omega)
  have g4 := hg 4 (by omega)
  have g5 := hg 5 (by omega)
  clear hg
  show (Op.equalIn (9999 + 1) _ _ _).run _ _ = _
  rw [Op.equalIn]
  simp [Sem.run_bind, hu, hs, hi, List.range', Go.part, Result.andThen, g0, g1, g2, g3, g4, g5]
end Go.Proofs.Ythlhfnafgjecaaa
