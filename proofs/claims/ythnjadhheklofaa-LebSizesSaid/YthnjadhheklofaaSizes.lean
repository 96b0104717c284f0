/- The walk of LebSizes: a number has a byte for each seven bits, one at least, all but the last one marked. -/
import Derived.Test.YthnjadhheklofaaLaws
namespace Go.Proofs.Ythnjadhheklofaa
open Go.RowKit
set_option linter.unusedVariables false

theorem encF_last : ∀ f n, n ≠ 0 → (Leb.encF f n).getD ((Leb.encF f n).length - 1) 0 ≠ 0
  | 0, n, h => by simpa [Leb.encF] using h
  | f + 1, n, h => by
    rw [Leb.encF]
    split
    · simpa using h
    · have h1 := Leb.encF_pos f (n / 128)
      have h2 := encF_last f (n / 128) (by omega)
      rw [List.length_cons, Nat.add_sub_cancel]
      obtain ⟨m, hm⟩ : ∃ m, (Leb.encF f (n / 128)).length = m + 1 := ⟨_, (Nat.succ_pred_eq_of_pos h1).symm⟩
      rw [hm] at h2 ⊢
      simpa using h2
/-- The bytes of a number, one by one. -/
theorem enc_marks (n j : Nat) (hn : n < 2 ^ 64) (hj : j < (Leb.enc n).length) :
    (j + 1 < (Leb.enc n).length ∧ 128 ≤ (Leb.enc n).getD j 0) ∨ (j + 1 = (Leb.enc n).length ∧ (Leb.enc n).getD j 0 < 128 ∧ (1 < (Leb.enc n).length → 0 < (Leb.enc n).getD j 0)) := by
  obtain ⟨h1, h2⟩ := Leb.enc_get n j hn hj
  by_cases h : j + 1 < (Leb.enc n).length
  · left
    rw [h1, if_pos h]
    omega
  · right
    have e : j + 1 = (Leb.enc n).length := by omega
    refine ⟨e, by rw [h1, if_neg h]; exact h2 e, fun hlen => ?_⟩
    have hn0 : n ≠ 0 := by rintro rfl; simp [Leb.enc, Leb.encF] at hlen
    have := encF_last 9 n hn0
    unfold Leb.enc at e ⊢
    rw [← e, Nat.add_sub_cancel] at this
    omega
theorem size_one (k : Nat) (hk : k < 64) : (Leb.enc (2 ^ k)).length = k / 7 + 1 ∧ (Leb.enc (2 ^ k - 1)).length = max 1 ((k + 6) / 7) := by
  have h : 2 ^ k < 2 ^ 64 := Nat.pow_lt_pow_right (by omega) hk
  rw [Leb.size_bits _ h, Leb.size_bits _ (by omega)]
  exact ⟨Leb.size_pow ⟨k, hk⟩, Leb.size_pow_less ⟨k, hk⟩⟩

theorem pow_wrap (k : Nat) (hk : k < 64) : IntKind.u64.wrap (2 ^ k) = ((2 ^ k : Nat) : Int) ∧ (1 : Int) ≤ ((2 ^ k : Nat) : Int) ∧ ((2 ^ k : Nat) : Int) ≤ 9223372036854775808 := by
  have h1 : 2 ^ k ≤ 2 ^ 63 := Nat.pow_le_pow_right (by omega) (by omega)
  have h2 : 1 ≤ 2 ^ k := Nat.one_le_two_pow
  rw [IntKind.wrap_u64, show (2 : Int) ^ k = ((2 ^ k : Nat) : Int) by simp]
  omega

set_option maxHeartbeats 2000000 in
set_option maxRecDepth 100000 in
theorem lebSizes (n s : Int) (w : World) (n0 : 0 ≤ n) (n1 : n ≤ 18446744073709551615) (s0 : -9223372036854775808 ≤ s) (s1 : s ≤ 9223372036854775807) :
    Calls Try.prog 9 #[.int .u64 n, .int .i64 s] w fun e w' => e = .returned (.bool true) ∧ Below w.heap.size w w' := by
  obtain ⟨k, hk⟩ := Int.eq_ofNat_of_zero_le (Int.emod_nonneg s (b := 64) (by decide))
  have hk64 : k < 64 := by omega
  have HK := Lib.hid hk
  have S1 := Lib.hid (size_one k hk64)
  clear hk
  have P1 := Lib.hid (pow_wrap k hk64)
  have hm1 := Leb.enc_pos n.toNat
  have hm2 := Leb.enc_len n.toNat
  go_enter Try.func9, Try.ntmps9
  go_wp2_with fail
  refine (bring s 64 _ s0 s1 (by decide) (by decide)).mono ?_
  rintro e w' ⟨rfl, rfl⟩
  rw [HK.out]
  go_wp2_with fail
  rw [P1.out.1]
  generalize ho : (2 ^ k : Nat) = o at *
  obtain ⟨_, o1, o2⟩ := P1.out
  have S2 := Lib.hid S1.out
  clear P1 S1 ho
  refine (size_is _ ((k : Int) / 7 + 1) _ (by omega) (by omega) (by rw [Int.toNat_natCast, S2.out.1]; omega)).mono ?_
  rintro e w' ⟨rfl, rfl⟩
  go_wp2_with fail
  refine (size_is _ (max 1 (((k : Int) + 6) / 7)) _ (by omega) (by omega) (by rw [show ((o : Int) - 1).toNat = o - 1 by omega, S2.out.2]; omega)).mono ?_
  rintro e w' ⟨rfl, rfl⟩
  go_wp2_with fail
  refine (put _ [] n _ (Rd.nil _ _) (by simp) n0 n1).mono ?_
  rintro e w1 ⟨r1, rfl, ho1, b1⟩
  rw [List.nil_append] at ho1
  obtain ⟨a, c, e1, _, _, _, _, h5⟩ := id ho1.rd
  subst e1
  obtain ⟨bb, off, rfl, _, hc⟩ := h5 hm1
  have HC := Lib.hid hc
  have MK := Lib.hid (fun j => enc_marks n.toNat j (by omega))
  clear h5 hc
  generalize hL : Leb.enc n.toNat = L at *
  have HL := Lib.hid hL
  clear hL
  go_wp2
  go_loop [8] (fun i => ∃ j : Nat, j ≤ L.length ∧ i = .int .i64 j) (fun i => L.length - (intOf i).toNat)
  case atStart => exact ⟨0, Nat.zero_le _, rfl⟩
  case round =>
    obtain ⟨j, hj, rfl⟩ := hrel
    by_cases hlt : j < L.length
    · have hcell := HC.out j hlt
      have mk := MK.out j hlt
      generalize L.getD j 0 = d at *
      have h3 : (j + 1 < L.length ∧ 128 ≤ d) ∨ (L.length ≤ j + 1 ∧ d < 128 ∧ 1 < L.length ∧ 0 < d) ∨ (L.length ≤ j + 1 ∧ d < 128 ∧ L.length ≤ 1) := by omega
      clear mk
      rcases h3 with ⟨c1, c2⟩ | ⟨c1, c2, c3, c4⟩ | ⟨c1, c2, c3⟩
      · go_wp2
        go_round
        case rel => exact ⟨j + 1, by omega, by go_num⟩
        case measure => simp [intOf]; omega
      · have hcell2 : w1.cell? ⟨bb, off + (L.length - 1), none⟩ = some (.int .u8 (d : Int)) := by rw [show L.length - 1 = j by omega]; exact hcell
        go_wp2
        go_round
        case rel => exact ⟨L.length, Nat.le_refl _, rfl⟩
        case measure => simp [intOf]; omega
      · go_wp2
        go_round
        case rel => exact ⟨j + 1, by omega, by go_num⟩
        case measure => simp [intOf]; omega
    · go_wp2_with fail
      refine (size_is _ (L.length : Int) _ n0 n1 (by rw [HL.out])).mono ?_
      rintro e w' ⟨rfl, rfl⟩
      go_wp2_with fail
      refine (works _).mono ?_
      rintro e w9 ⟨rfl, b9⟩
      go_wp2
      go_ret
      exact ⟨rfl, up b1 b9⟩
end Go.Proofs.Ythnjadhheklofaa
