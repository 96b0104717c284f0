/- The walk of LebKnown: each one byte, each two bytes, and the last bytes of ten. -/
import Derived.Test.YthnjadhheklofaaWrites
namespace Go.Proofs.Ythnjadhheklofaa
open Go.RowKit
set_option linter.unusedVariables false

theorem wrap_range (z : Int) : 0 ≤ IntKind.u64.wrap z ∧ IntKind.u64.wrap z ≤ 18446744073709551615 := by rw [IntKind.wrap_u64]; omega
theorem wrap64_range (z : Int) : -9223372036854775808 ≤ wrap64 z ∧ wrap64 z ≤ 9223372036854775807 := by unfold wrap64; omega

set_option maxHeartbeats 2000000 in
set_option maxRecDepth 100000 in
theorem lebKnown (w : World) :
    Calls Try.prog 10 #[] w fun e w' => e = .returned (.bool true) ∧ Below w.heap.size w w' := by
  go_enter Try.func10, Try.ntmps10
  go_wp2
  go_loopw [1] (fun x w' => ∃ i : Nat, i ≤ 256 ∧ x = .int .i64 i ∧ Below w.heap.size w w') (fun x _ => 256 - (intOf x).toNat)
  case atStart => exact ⟨0, by omega, rfl, Below.refl _ _⟩
  case round =>
    obtain ⟨i, hi, rfl, hb⟩ := hrel
    by_cases hlt : i < 256
    · go_wp2_with fail
      refine (lebReads _ [i] _ (rd_lit wr [i] _ 1 rfl rfl (by simp) (by simp; omega))).mono ?_
      rintro e w1 ⟨rfl, b1⟩
      have B1 := up_alloc hb b1
      clear b1 hb
      go_wp2_with fail
      refine (lebReads _ [255, 255, 255, 255, 255, 255, 255, 255, 255, i] _ (rd_lit w1 [255, 255, 255, 255, 255, 255, 255, 255, 255, i] _ 10 rfl rfl (by simp) (by simp; omega))).mono ?_
      rintro e w2 ⟨rfl, b2⟩
      have B2 := up_alloc B1 b2
      clear b2 B1
      go_wp2_with fail
      refine (lebReads _ [128, 128, 128, 128, 128, 128, 128, 128, i, 1] _ (rd_lit w2 [128, 128, 128, 128, 128, 128, 128, 128, i, 1] _ 10 rfl rfl (by simp) (by simp; omega))).mono ?_
      rintro e w3 ⟨rfl, b3⟩
      have B3 := up_alloc B2 b3
      clear b3 B2
      go_wp2_with fail
      refine (lebReads _ [255, 255, 255, 255, 255, 255, 255, 255, i] _ (rd_lit w3 [255, 255, 255, 255, 255, 255, 255, 255, i] _ 9 rfl rfl (by simp) (by simp; omega))).mono ?_
      rintro e w4 ⟨rfl, b4⟩
      have B4 := up_alloc B3 b4
      clear b4 B3
      go_wp2
      go_loopw [2] (fun x w' => ∃ k : Nat, k ≤ 258 ∧ x = .int .i64 k ∧ Below w.heap.size w w') (fun x _ => 258 - (intOf x).toNat)
      case atStart => exact ⟨0, by omega, rfl, B4⟩
      case round =>
        obtain ⟨k, hk, rfl, hb⟩ := hrel
        clear B4
        by_cases hlk : k < 256
        · go_wp2_with fail
          refine (lebReads _ [i, k] _ (rd_lit wr [i, k] _ 2 rfl rfl (by simp) (by simp; omega))).mono ?_
          rintro e w5 ⟨rfl, b5⟩
          have B5 := up_alloc hb b5
          clear b5 hb
          go_wp2
          go_roundw
          case rel => exact ⟨k + 3, by omega, by go_num, B5⟩
          case measure => simp [intOf]; omega
        · go_wp2
          go_roundw
          case rel => exact ⟨i + 1, by omega, by go_num, hb⟩
          case measure => simp [intOf]; omega
    · have hd : decide ((i : Int) < 256) = false := by simp; omega
      go_wp2
      go_loopw [3] (fun x w' => ∃ i : Nat, i ≤ 64 ∧ x = .int .i64 i ∧ Below w.heap.size w w') (fun x _ => 64 - (intOf x).toNat)
      case atStart => exact ⟨0, by omega, rfl, hb⟩
      case round =>
        clear hb
        obtain ⟨j, hj, rfl, hb⟩ := hrel
        by_cases hlj : j < 64
        · have hd2 : decide ((j : Int) < 64) = true := by simp; omega
          go_wp2
          go_loopw [4] (fun x w' => ∃ k : Nat, k ≤ 3 ∧ x = .int .i64 k ∧ Below w.heap.size w w') (fun x _ => 3 - (intOf x).toNat)
          case atStart => exact ⟨0, by omega, rfl, hb⟩
          case round =>
            clear hb
            obtain ⟨k, hk, rfl, hb⟩ := hrel
            by_cases hlk : k < 3
            · go_wp2_with fail
              obtain ⟨x, hx⟩ : ∃ x, IntKind.u64.wrap (IntKind.u64.wrap (IntKind.u64.wrap (2 ^ j) + (k : Int)) - 1) = x := ⟨_, rfl⟩
              rw [hx]
              obtain ⟨x0, x1⟩ : 0 ≤ x ∧ x ≤ 18446744073709551615 := by rw [← hx]; exact wrap_range _
              clear hx
              have s1 := wrap64_range x
              have s2 := wrap64_range (-wrap64 x)
              have s3 := wrap_range (-x)
              refine (lebWrites _ [] _ _ _ (Rd.nil _ _) x0 x1 s1.1 s1.2).mono ?_
              rintro e w5 ⟨rfl, b5⟩
              go_wp2_with fail
              refine (lebBack _ _ _ [] _ x0 x1 s2.1 s2.2 (Rd.nil _ _)).mono ?_
              rintro e w6 ⟨rfl, b6⟩
              go_wp2_with fail
              refine (lebBack _ _ _ [0] _ s3.1 s3.2 s1.1 s1.2 (rd_lit w6 [0] _ 1 rfl rfl (by simp) (by simp))).mono ?_
              rintro e w7 ⟨rfl, b7⟩
              have B7 := up_alloc (up (up hb b5) b6) b7
              clear b5 b6 b7 hb s1 s2 s3
              go_wp2
              go_roundw
              case rel => exact ⟨k + 1, by omega, by go_num, B7⟩
              case measure => simp [intOf]; omega
            · go_wp2
              go_roundw
              case rel => exact ⟨j + 1, by omega, by go_num, hb⟩
              case measure => simp [intOf]; omega
        · go_wp2_with fail
          refine (works _).mono ?_
          rintro e w9 ⟨rfl, b9⟩
          go_wp2
          go_ret
          exact ⟨rfl, up hb b9⟩
end Go.Proofs.Ythnjadhheklofaa
