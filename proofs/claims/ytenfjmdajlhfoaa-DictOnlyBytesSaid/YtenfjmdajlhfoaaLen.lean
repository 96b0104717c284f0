/- math/bits.Len64 answers how many bits its number has, and leaves the memory alone. Conditions: none but that the number is a uint64. -/
import Derived.Test.YtenfjmdajlhfoaaChecked
import Derived.Lib.Strings
import Derived.Lib.Slices
import Derived.Lib.Small
import Derived.Lib.Walk
import Derived.Lib.BitFns
namespace Go.Proofs.Ytenfjmdajlhfoaa

/-- The look-up in the table of 256 lengths, k bits having been cut off. -/
theorem len_shift (k : Nat) (x y : Int) (hk : k ≤ 56) (h0 : 0 ≤ x) (h1 : x ≤ 18446744073709551615) (hy : y = x / 2 ^ k) (hy0 : 0 ≤ y) (hy1 : y ≤ 255) (hx : k = 0 ∨ (2 : Int) ^ k ≤ x) :
    (k : Int) + Lib.len8 y = (Lib.bitLen x.toNat : Int) ∧ 0 ≤ Lib.len8 y ∧ Lib.len8 y ≤ 8 := by
  have l := Lib.bitLen_le8' y hy0 hy1
  rw [Lib.len8_of y hy0 hy1]
  obtain ⟨n, rfl⟩ := Int.eq_ofNat_of_zero_le h0
  have e : y.toNat = n / 2 ^ k := by
    subst hy
    rw [show ((n : Int) / 2 ^ k) = ((n / 2 ^ k : Nat) : Int) by simp]
    rfl
  rw [e] at l ⊢
  simp only [Int.toNat_natCast]
  refine ⟨?_, by omega, by omega⟩
  rcases hx with rfl | hx
  · simp
  · have h2 : 2 ^ k ≤ n := by
      have : ((2 ^ k : Nat) : Int) ≤ (n : Int) := by simpa using hx
      omega
    rw [Lib.bitLen_shift k n h2 (by omega)]
    omega

set_option maxHeartbeats 4000000 in
set_option maxRecDepth 100000 in
theorem len64 (x : Int) (w : World) (h0 : 0 ≤ x) (h1 : x ≤ 18446744073709551615) :
    Calls Try.prog 45 #[.int .u64 x] w fun e w' => e = .returned (.int .i64 (Lib.bitLen x.toNat)) ∧ w = w' := by
  go_enter Try.func45, Try.ntmps45
  go_wp2
  all_goals (go_ret; refine ⟨congrArg Ending.returned (congrArg (Value.int IntKind.i64) ?_), rfl⟩)
  · have := len_shift 56 x (x / 4294967296 / 65536 / 256 % 256) (by omega) h0 h1 (by omega) (by omega) (by omega) (by omega)
    omega
  · have := len_shift 48 x (x / 4294967296 / 65536 % 256) (by omega) h0 h1 (by omega) (by omega) (by omega) (by omega)
    omega
  · have := len_shift 40 x (x / 4294967296 / 256 % 256) (by omega) h0 h1 (by omega) (by omega) (by omega) (by omega)
    omega
  · have := len_shift 32 x (x / 4294967296 % 256) (by omega) h0 h1 (by omega) (by omega) (by omega) (by omega)
    omega
  · have := len_shift 24 x (x / 65536 / 256 % 256) (by omega) h0 h1 (by omega) (by omega) (by omega) (by omega)
    omega
  · have := len_shift 16 x (x / 65536 % 256) (by omega) h0 h1 (by omega) (by omega) (by omega) (by omega)
    omega
  · have := len_shift 8 x (x / 256 % 256) (by omega) h0 h1 (by omega) (by omega) (by omega) (by omega)
    omega
  · have := len_shift 0 x (x % 256) (by omega) h0 h1 (by omega) (by omega) (by omega) (by omega)
    omega
end Go.Proofs.Ytenfjmdajlhfoaa
