/- The walk of CrcFar: it returns true and changes nothing that was there. -/
import Derived.Test.YtdhlkomfponalaaDoorLaws
namespace Go.Proofs.YtdhlkomfponalaaDoor
open Go.RowKit
set_option linter.unusedVariables false

set_option maxHeartbeats 2000000 in
set_option maxRecDepth 100000 in
theorem crcFar (a n m : Int) (w : World) (a0 : 0 ≤ a) (a1 : a ≤ 4294967295) (n0 : -9223372036854775808 ≤ n) (n1 : n ≤ 9223372036854775807) (m0 : -9223372036854775808 ≤ m) (m1 : m ≤ 9223372036854775807) (T : Tab w) :
    Calls Tryd.prog 7 #[.int .u32 a, .int .i64 n, .int .i64 m] w fun e w' => e = .returned (.bool true) ∧ Below w.heap.size w w' := by
  obtain ⟨a, rfl, ha⟩ := nat32 a a0 a1
  obtain ⟨k, hk⟩ := Int.eq_ofNat_of_zero_le (Int.emod_nonneg n (b := 1152921504606846976) (by decide))
  obtain ⟨j, hj⟩ := Int.eq_ofNat_of_zero_le (Int.emod_nonneg m (b := 1152921504606846976) (by decide))
  have hk1 : k < 1152921504606846976 := by omega
  have hj1 : j < 1152921504606846976 := by omega
  have HK := Lib.hid hk
  have HJ := Lib.hid hj
  clear hk hj
  have U := Lib.hid (Crc.zs_lt (8 * k) a ha)
  have E1 : Hid (Crc.zs (8 * k) a ^^^ 0 = Crc.zs (8 * k) a) := Lib.hid (Nat.xor_zero _)
  have E2 : Hid (Crc.zs (8 * j) (Crc.zs (8 * k) a) ^^^ 0 = Crc.zs (8 * (k + j)) a) := Lib.hid (by rw [Nat.xor_zero, ← Crc.zs_add, ← Nat.mul_add])
  have E3 : ((((Crc.zs (8 * k) a : Nat) : Int) == 0) == ((a : Int) == 0)) = true := by
    rw [beq_iff_eq, Bool.eq_iff_iff, beq_iff_eq, beq_iff_eq]
    constructor
    · intro h
      have := Crc.zs_none (8 * k) a ha (by omega)
      omega
    · intro h
      have : a = 0 := by omega
      subst this
      rw [Crc.zs_zero]; rfl
  have HE3 := Lib.hid E3
  clear E3
  go_enter Tryd.func7, Tryd.ntmps7
  go_wp2_with fail
  refine (bring n 1152921504606846976 _ n0 n1 (by decide) (by decide)).mono ?_
  rintro e w' ⟨rfl, rfl⟩
  rw [HK.out]
  go_wp2_with fail
  refine (bring m 1152921504606846976 _ m0 m1 (by decide) (by decide)).mono ?_
  rintro e w' ⟨rfl, rfl⟩
  rw [HJ.out]
  go_wp2_with fail
  refine (join a 0 k _ ha (by omega) (by omega) T).mono ?_
  rintro e w1 ⟨rfl, b1⟩
  rw [E1.out]
  go_wp2_with fail
  refine (join _ 0 j _ U.out (by omega) (by omega) (T.later b1)).mono ?_
  rintro e w2 ⟨rfl, b2⟩
  rw [E2.out]
  go_wp2_with fail
  rw [show (k : Int) + (j : Int) = ((k + j : Nat) : Int) by omega]
  refine (join a 0 (k + j) _ ha (by omega) (by omega) ((T.later b1).later b2)).mono ?_
  rintro e w3 ⟨rfl, b3⟩
  rw [Nat.xor_zero]
  generalize Crc.zs (8 * (k + j)) a = y at *
  generalize Crc.zs (8 * k) a = x at *
  have h3 := HE3.out
  go_wp2_with fail
  refine (works _ (((T.later b1).later b2).later b3)).mono ?_
  rintro e w4 ⟨rfl, b4⟩
  go_wp2
  go_ret
  exact ⟨rfl, up (up (up b1 b2) b3) b4⟩
end Go.Proofs.YtdhlkomfponalaaDoor
