/- The walk of LebZigs: Zag takes back what Zig makes, and Zig what Zag makes; of two numbers of one sign the one further from 0 has the greater Zig. -/
import Derived.Test.YthnjadhheklofaaWork
namespace Go.Proofs.Ythnjadhheklofaa
open Go.RowKit
set_option linter.unusedVariables false

theorem zig_sign (n : Int) (h0 : -9223372036854775808 ≤ n) (h1 : n ≤ 9223372036854775807) : (zigN n % 2 != IntKind.u64.wrap n / 9223372036854775808) = false := by
  rw [IntKind.wrap_u64]
  have : zigN n % 2 = n % 18446744073709551616 / 9223372036854775808 := by unfold zigN; split <;> omega
  simp [this]
theorem zig_sign' (n : Int) (h : 0 ≤ n) (h1 : n ≤ 9223372036854775807) : (zigN n % 2 != n / 9223372036854775808) = false := by
  have : zigN n % 2 = n / 9223372036854775808 := by unfold zigN; split <;> omega
  simp [this]
theorem zig_order (n m : Int) : (0 ≤ n ∧ 0 ≤ m ∧ (n < m ↔ zigN n < zigN m)) ∨ (0 ≤ n ∧ m < 0) ∨ (n < 0 ∧ 0 ≤ m) ∨ (n < 0 ∧ m < 0 ∧ (n < m ↔ zigN m < zigN n)) := by
  have h1 : 0 ≤ n → 0 ≤ m → (n < m ↔ zigN n < zigN m) := by unfold zigN; split <;> split <;> omega
  have h2 : n < 0 → m < 0 → (n < m ↔ zigN m < zigN n) := by unfold zigN; split <;> split <;> omega
  rcases Int.lt_or_le n 0 with hn | hn <;> rcases Int.lt_or_le m 0 with hm | hm
  · exact .inr (.inr (.inr ⟨hn, hm, h2 hn hm⟩))
  · exact .inr (.inr (.inl ⟨hn, hm⟩))
  · exact .inr (.inl ⟨hn, hm⟩)
  · exact .inl ⟨hn, hm, h1 hn hm⟩

set_option maxHeartbeats 2000000 in
set_option maxRecDepth 100000 in
theorem lebZigs (n m u : Int) (w : World) (n0 : -9223372036854775808 ≤ n) (n1 : n ≤ 9223372036854775807) (m0 : -9223372036854775808 ≤ m) (m1 : m ≤ 9223372036854775807) (u0 : 0 ≤ u) (u1 : u ≤ 18446744073709551615) :
    Calls Try.prog 8 #[.int .i64 n, .int .i64 m, .int .u64 u] w fun e w' => e = .returned (.bool true) ∧ Below w.heap.size w w' := by
  have z1 := zig_range n n0 n1
  have z2 := zig_range m m0 m1
  have z3 := zag_range u u0 u1
  have e1 : (zagN (zigN n) != n) = false := by rw [zag_zig]; simp
  have e2 : (zigN (zagN u) != u) = false := by rw [zig_zag u u0]; simp
  have e3 := zig_sign n n0 n1
  obtain ⟨z11, z12⟩ := z1
  obtain ⟨z21, z22⟩ := z2
  obtain ⟨z31, z32⟩ := z3
  rcases zig_order n m with ⟨c1, c2, c3⟩ | ⟨c1, c2⟩ | ⟨c1, c2⟩ | ⟨c1, c2, c3⟩
  · have e4 := zig_sign' n c1 n1
    go_enter Try.func8, Try.ntmps8
    go_wp2_with (first
      | (go_at_call 19; refine (zig _ _ (by omega) (by omega)).mono ?_; rintro e w' ⟨rfl, rfl⟩)
      | (go_at_call 21; refine (zag _ _ (by omega) (by omega)).mono ?_; rintro e w' ⟨rfl, rfl⟩)
      | (go_at_call 23; refine (works _).mono ?_; rintro e w9 ⟨rfl, hb9⟩))
    go_ret
    exact ⟨rfl, hb9⟩
  · have e4 := zig_sign' n c1 n1
    go_enter Try.func8, Try.ntmps8
    go_wp2_with (first
      | (go_at_call 19; refine (zig _ _ (by omega) (by omega)).mono ?_; rintro e w' ⟨rfl, rfl⟩)
      | (go_at_call 21; refine (zag _ _ (by omega) (by omega)).mono ?_; rintro e w' ⟨rfl, rfl⟩)
      | (go_at_call 23; refine (works _).mono ?_; rintro e w9 ⟨rfl, hb9⟩))
    go_ret
    exact ⟨rfl, hb9⟩
  all_goals
    go_enter Try.func8, Try.ntmps8
    go_wp2_with (first
      | (go_at_call 19; refine (zig _ _ (by omega) (by omega)).mono ?_; rintro e w' ⟨rfl, rfl⟩)
      | (go_at_call 21; refine (zag _ _ (by omega) (by omega)).mono ?_; rintro e w' ⟨rfl, rfl⟩)
      | (go_at_call 23; refine (works _).mono ?_; rintro e w9 ⟨rfl, hb9⟩))
    go_ret
    exact ⟨rfl, hb9⟩
end Go.Proofs.Ythnjadhheklofaa
