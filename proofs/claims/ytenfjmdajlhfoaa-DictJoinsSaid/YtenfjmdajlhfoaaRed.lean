/- GetInt of the program, and Get and GetInt of the reference, answer what the plain reading of bytes says. -/
import Derived.Test.YtenfjmdajlhfoaaByt
namespace Go.Proofs.Ytenfjmdajlhfoaa
open Go.RowKit
set_option linter.unusedVariables false

theorem rget_step (acc k d t : Nat) (ht : t = 128 ^ k) (hacc : acc < t) (hk : k < 9 ∨ k = 9 ∧ d ≤ 1) :
    IntKind.u64.wrap ((acc : Int) + IntKind.u64.wrap ((d : Int) % 128 * (t : Int))) = ((acc + d % 128 * 128 ^ k : Nat) : Int) := by
  subst ht
  have h3 := digit_room k d hk
  have h5 : acc + d % 128 * 128 ^ k < 18446744073709551616 := by
    rcases hk with hk | ⟨rfl, hd⟩
    · have h6 := acc_step acc k d hacc
      have h7 : 128 ^ (k + 1) ≤ 128 ^ 9 := Nat.pow_le_pow_right (by omega) (by omega)
      omega
    · have : d % 128 * 128 ^ 9 ≤ 1 * 128 ^ 9 := Nat.mul_le_mul (by omega) (Nat.le_refl _)
      omega
  rw [show (d : Int) % 128 * ((128 ^ k : Nat) : Int) = ((d % 128 * 128 ^ k : Nat) : Int) by simp, IntKind.wrap_u64, IntKind.wrap_u64,
    show ((d % 128 * 128 ^ k : Nat) : Int) % 18446744073709551616 = ((d % 128 * 128 ^ k : Nat) : Int) by omega]
  omega
theorem rget_worth (k t : Nat) (ht : t = 128 ^ k) (hk : k < 9) : IntKind.u64.wrap ((t : Int) * 128) = ((128 ^ (k + 1) : Nat) : Int) ∧ ((128 ^ (k + 1) : Nat) : Int) ≤ 18446744073709551615 := by
  subst ht
  have h7 : 128 ^ (k + 1) ≤ 128 ^ 9 := Nat.pow_le_pow_right (by omega) (by omega)
  have h8 := Leb.pow_step k
  rw [IntKind.wrap_u64]
  omega
/-- What GetInt answers. -/
def decI (l : List Nat) : Int := if (Leb.dec l).2.2 = 0 then zagN (Leb.dec l).1 else 0

theorem dec_room (l : List Nat) (hb : ∀ x ∈ l, x < 256) : (Leb.dec l).1 < 18446744073709551616 := by
  by_cases h : (Leb.dec l).2.2 = 0
  · exact (Leb.enc_dec l (Leb.dec l).1 (Leb.dec l).2.1 hb (by rw [← h])).2.2.2
  · rw [(Leb.dec_err l h).1]; omega

theorem ret3i {a a' b b' c c' : Int} (h1 : a = a') (h2 : b = b') (h3 : c = c') :
    Ending.returned (.tuple #[.int .i64 a, .int .i64 b, .int .i64 c]) = .returned (.tuple #[.int .i64 a', .int .i64 b', .int .i64 c']) := by rw [h1, h2, h3]

set_option maxHeartbeats 1000000 in
set_option maxRecDepth 100000 in
theorem rget (v : Value) (l : List Nat) (w : World) (h : Rd w w.heap.size v l) :
    Calls Try.prog 38 #[v] w fun e w' => e = .returned (.tuple #[.int .u64 (Leb.dec l).1, .int .i64 (Leb.dec l).2.1, .int .i64 (Leb.dec l).2.2]) ∧ w = w' := by
  have hm := h.len
  unfold maxLen at hm
  obtain ⟨a, c, rfl, h1, h2, h3, h4, h5⟩ := id h
  clear h
  have H5 := Lib.hid h5
  have H4 := Lib.hid h4
  clear h3 h4 h5 h2 h1
  go_enter Try.func38, Try.ntmps38
  go_wp2
  go_loop [5, 6, 7] (fun n s i => ∃ k acc t : Nat, k ≤ l.length ∧ k ≤ 9 ∧ i = .int .i64 k ∧ n = .int .u64 acc ∧ s = .int .u64 t ∧ acc < t ∧ (t : Int) ≤ 18446744073709551615 ∧ Hid (t = 128 ^ k) ∧ Hid (Leb.decF k acc (l.drop k) = Leb.dec l)) (fun _ _ i => l.length - (intOf i).toNat)
  case atStart => exact ⟨0, 0, 1, Nat.zero_le _, by omega, rfl, rfl, rfl, by omega, by omega, Lib.hid rfl, Lib.hid rfl⟩
  case round =>
    obtain ⟨k, acc, t, hk, hk9, rfl, rfl, rfl, hacc, ht, HT, HD⟩ := hrel
    by_cases hlt : k < l.length
    · obtain ⟨b, off, rfl, _, hc⟩ := H5.out (by omega)
      have hd := H4.out (l.getD k 0) (by simp [List.getElem?_eq_getElem hlt])
      have hcell := hc k hlt
      clear hc
      have hdrop : l.drop k = l.getD k 0 :: l.drop (k + 1) := by
        rw [List.drop_eq_getElem_cons hlt]; simp [List.getElem?_eq_getElem hlt]
      rw [hdrop] at HD
      clear hdrop H5 H4
      generalize l.getD k 0 = d at *
      by_cases hA : 9 ≤ k ∧ 1 < d
      · have HE := Lib.hid (HD.out.symm.trans (by rw [Leb.decF, if_pos ⟨by omega, hA.2⟩]))
        obtain ⟨hA1, hA2⟩ := hA
        obtain rfl : k = 9 := by omega
        go_wp2
        go_ret3
        rw [HE.out]
        exact ⟨rfl, rfl⟩
      · by_cases hB : 0 < k ∧ d ≤ 0
        · have HE := Lib.hid (HD.out.symm.trans (by rw [Leb.decF, if_neg (by omega), if_pos ⟨hB.1, by omega⟩]))
          obtain ⟨hB1, hB2⟩ := hB
          clear hA
          by_cases h9 : k < 9
          · go_wp2
            go_ret3
            rw [HE.out]
            exact ⟨rfl, rfl⟩
          · obtain rfl : k = 9 := by omega
            go_wp2
            go_ret3
            rw [HE.out]
            exact ⟨rfl, rfl⟩
        · have HS := Lib.hid (rget_step acc k d t HT.out hacc (by omega))
          by_cases hC : d < 128
          · have HE := Lib.hid (HD.out.symm.trans (by rw [Leb.decF, if_neg (by omega), if_neg (by omega), if_pos hC, ← HT.out]))
            have h3 : k ≤ 0 ∨ (0 < k ∧ k < 9 ∧ 0 < d) ∨ (9 ≤ k ∧ 0 < d ∧ d ≤ 1) := by omega
            clear hA hB
            rcases h3 with h0 | ⟨h0, h9, hd0⟩ | ⟨h9, hd0, hd1⟩
            · go_wp2
              go_ret3
              rw [HE.out]
              exact ⟨ret3 (HS.out.trans (by rw [Nat.mod_eq_of_lt hC, ← HT.out])) (by dsimp only; omega) rfl, rfl⟩
            · go_wp2
              go_ret3
              rw [HE.out]
              exact ⟨ret3 (HS.out.trans (by rw [Nat.mod_eq_of_lt hC, ← HT.out])) (by dsimp only; omega) rfl, rfl⟩
            · obtain rfl : k = 9 := by omega
              go_wp2
              go_ret3
              rw [HE.out]
              exact ⟨ret3 (HS.out.trans (by rw [Nat.mod_eq_of_lt hC, ← HT.out])) (by dsimp only; omega) rfl, rfl⟩
          · have HE := Lib.hid (HD.out.symm.trans (by rw [Leb.decF, if_neg (by omega), if_neg (by omega), if_neg hC]))
            have h9 : k < 9 := by omega
            have HW := Lib.hid (rget_worth k t HT.out h9)
            have HA := Lib.hid (acc_step acc k d (by rw [← HT.out]; exact hacc))
            clear hA hB
            by_cases h0 : 0 < k
            · go_wp2
              go_round
              case rel => exact ⟨k + 1, acc + d % 128 * 128 ^ k, 128 ^ (k + 1), by omega, by omega, by go_num, by rw [HS.out], by rw [HW.out.1], HA.out, HW.out.2, Lib.hid rfl, Lib.hid HE.out.symm⟩
              case measure => simp [intOf]; omega
            · go_wp2
              go_round
              case rel => exact ⟨k + 1, acc + d % 128 * 128 ^ k, 128 ^ (k + 1), by omega, by omega, by go_num, by rw [HS.out], by rw [HW.out.1], HA.out, HW.out.2, Lib.hid rfl, Lib.hid HE.out.symm⟩
              case measure => simp [intOf]; omega
    · have HE := Lib.hid (HD.out.symm.trans (by rw [List.drop_eq_nil_of_le (by omega), Leb.decF]))
      go_wp2
      go_ret3
      rw [HE.out]
      exact ⟨rfl, rfl⟩
end Go.Proofs.Ytenfjmdajlhfoaa
