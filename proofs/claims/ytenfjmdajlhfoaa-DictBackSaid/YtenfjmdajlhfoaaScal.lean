/- The functions of layer 1 that only reckon with numbers answer as the chapter says: Size, Zig, Zag; so do the reference's Zig and Zag and the helper Bring. Conditions: none but that the numbers are of their types. -/
import Derived.Test.YtenfjmdajlhfoaaLen
import Derived.Test.YtenfjmdajlhfoaaPlain
import Derived.WalkKit
import Derived.WalkSpells
import Derived.WalkLawsBesides
import Derived.Lib.Hide
namespace Go.Proofs.Ytenfjmdajlhfoaa
open Go.RowKit
set_option linter.unusedVariables false

def zigN (x : Int) : Int := if 0 ≤ x then 2 * x else -2 * x - 1
def zagN (u : Int) : Int := if u % 2 = 0 then u / 2 else -(u / 2) - 1

theorem xor_ones_u64 (a : Nat) (ha : a < 18446744073709551616) : bits .xor .u64 (a : Int) 18446744073709551615 = 18446744073709551615 - (a : Int) := by
  show IntKind.u64.wrap ((BitVec.ofInt 64 (a : Int) ^^^ BitVec.ofInt 64 18446744073709551615).toNat : Int) = _
  have h1 : BitVec.ofInt 64 18446744073709551615 = BitVec.allOnes 64 := by decide
  rw [h1, BitVec.xor_allOnes, BitVec.toNat_not, ofInt_u64 a ha, IntKind.wrap_u64]
  omega
theorem xor_zero_u64 (a : Nat) (ha : a < 18446744073709551616) : bits .xor .u64 (a : Int) 0 = (a : Int) := by
  have := u64_xor_nat a 0 ha (by omega)
  simpa using this
theorem xor_ones_i64 (a : Nat) (ha : a < 9223372036854775808) : bits .xor .i64 (a : Int) (-1) = -1 - (a : Int) := by
  show IntKind.i64.wrap ((BitVec.ofInt 64 (a : Int) ^^^ BitVec.ofInt 64 (-1)).toNat : Int) = _
  have h1 : BitVec.ofInt 64 (-1) = BitVec.allOnes 64 := by decide
  rw [h1, BitVec.xor_allOnes, BitVec.toNat_not, ofInt_u64 a (by omega)]
  simp [IntKind.wrap, IntKind.bits, IntKind.signed]
  omega
theorem xor_zero_i64 (a : Nat) (ha : a < 9223372036854775808) : bits .xor .i64 (a : Int) 0 = (a : Int) := by
  show IntKind.i64.wrap ((BitVec.ofInt 64 (a : Int) ^^^ BitVec.ofInt 64 0).toNat : Int) = _
  have h1 : BitVec.ofInt 64 0 = 0#64 := by decide
  rw [h1, BitVec.xor_zero, ofInt_u64 a (by omega)]
  simp [IntKind.wrap, IntKind.bits, IntKind.signed]
  omega

theorem zig_eq (x : Int) (h0 : -9223372036854775808 ≤ x) (h1 : x ≤ 9223372036854775807) :
    bits BinOp.xor IntKind.u64 (IntKind.u64.wrap (IntKind.u64.wrap x * 2)) (IntKind.u64.wrap (x / 9223372036854775808)) = zigN x := by
  simp only [IntKind.wrap_u64]
  unfold zigN
  split
  · rename_i h
    rw [show x / 9223372036854775808 % 18446744073709551616 = 0 by omega]
    obtain ⟨a, ha⟩ := Int.eq_ofNat_of_zero_le (a := x % 18446744073709551616 * 2 % 18446744073709551616) (by omega)
    rw [ha, xor_zero_u64 a (by omega)]
    omega
  · rename_i h
    rw [show x / 9223372036854775808 % 18446744073709551616 = 18446744073709551615 by omega]
    obtain ⟨a, ha⟩ := Int.eq_ofNat_of_zero_le (a := x % 18446744073709551616 * 2 % 18446744073709551616) (by omega)
    rw [ha, xor_ones_u64 a (by omega)]
    omega
theorem and_one (x : Int) (h0 : 0 ≤ x) (h1 : x ≤ 18446744073709551615) : bits BinOp.and IntKind.u64 x 1 = x % 2 := by
  rw [u64_and x 1 h0 (by omega) (by omega) (by omega), show (1 : Int).toNat = 1 from rfl, nat_mask1]
  omega
theorem zag_eq (x : Int) (h0 : 0 ≤ x) (h1 : x ≤ 18446744073709551615) :
    bits BinOp.xor IntKind.i64 (x / 2) (wrap64 (-wrap64 (bits BinOp.and IntKind.u64 x 1))) = zagN x := by
  rw [and_one x h0 h1]
  unfold wrap64 zagN
  obtain ⟨a, ha⟩ := Int.eq_ofNat_of_zero_le (a := x / 2) (by omega)
  split
  · rename_i h
    rw [h, ha]
    exact xor_zero_i64 a (by omega)
  · rename_i h
    rw [show x % 2 = 1 by omega, ha]
    refine (xor_ones_i64 a (by omega)).trans ?_
    omega
theorem bring_eq (x n : Int) (hn : 0 < n) (hn' : n ≤ 1000000) : (x.tmod n < 0 → wrap64 (x.tmod n + n) = x % n) ∧ (0 ≤ x.tmod n → x.tmod n = x % n) := by
  unfold wrap64
  have h := Int.tmod_eq_emod (a := x) (b := n)
  have h2 := Int.emod_nonneg x (b := n) (by omega)
  have h3 := Int.emod_lt_of_pos x hn
  split at h <;> constructor <;> intro h5 <;> omega

theorem zig_range (x : Int) (h0 : -9223372036854775808 ≤ x) (h1 : x ≤ 9223372036854775807) : 0 ≤ zigN x ∧ zigN x ≤ 18446744073709551615 := by
  unfold zigN; split <;> omega
theorem zag_range (x : Int) (h0 : 0 ≤ x) (h1 : x ≤ 18446744073709551615) : -9223372036854775808 ≤ zagN x ∧ zagN x ≤ 9223372036854775807 := by
  unfold zagN; split <;> omega
theorem zag_zig (x : Int) : zagN (zigN x) = x := by unfold zagN zigN; split <;> split <;> omega
theorem zig_zag (u : Int) (h0 : 0 ≤ u) : zigN (zagN u) = u := by unfold zagN zigN; split <;> split <;> omega

/-- 'x | 1', as the walk has it. -/
theorem or_one (x : Int) (h0 : 0 ≤ x) (h1 : x ≤ 18446744073709551615) : bits BinOp.or IntKind.u64 x 1 = ((x.toNat ||| 1 : Nat) : Int) ∧ x.toNat ||| 1 < 18446744073709551616 :=
  ⟨u64_or x 1 h0 (by omega) (by omega) (by omega), Nat.or_lt_two_pow (n := 64) (by omega) (by decide)⟩

set_option maxHeartbeats 400000 in
theorem size (x : Int) (w : World) (h0 : 0 ≤ x) (h1 : x ≤ 18446744073709551615) :
    Calls Try.prog 44 #[.int .u64 x] w fun e w' => e = .returned (.int .i64 ((Leb.enc x.toNat).length)) ∧ w = w' := by
  have hs := Leb.size_bits x.toNat (by omega)
  have hb := Lib.bitLen_le (x.toNat ||| 1) 64 (by omega) (or_one x h0 h1).2
  have HS := Lib.hid hs
  clear hs
  go_enter Try.func44, Try.ntmps44
  go_wp2_with fail
  rw [(or_one x h0 h1).1]
  refine (len64 _ _ (by omega) (by have := (or_one x h0 h1).2; omega)).mono ?_
  rintro e w' ⟨rfl, rfl⟩
  rw [Int.toNat_natCast]
  go_wp2
  go_ret
  refine ⟨congrArg Ending.returned (congrArg (Value.int IntKind.i64) ?_), rfl⟩
  rw [HS.out]
  omega
end Go.Proofs.Ytenfjmdajlhfoaa
