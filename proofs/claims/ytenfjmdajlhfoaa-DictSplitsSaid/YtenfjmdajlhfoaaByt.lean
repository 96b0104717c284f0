/- The helpers on lists of bytes (CopyBytes, EqBytes, cut), and Get and GetInt of the program and of the reference. -/
import Derived.Test.YtenfjmdajlhfoaaScal
import Derived.Test.YtenfjmdajlhfoaaMem
namespace Go.Proofs.Ytenfjmdajlhfoaa
open Go.RowKit
set_option linter.unusedVariables false

set_option maxHeartbeats 400000 in
theorem copyBytes (v : Value) (l : List Nat) (w : World) (h : Rd w w.heap.size v l) (hl : l.length ≤ 1000000) :
    Calls Try.prog 12 #[v] w fun e w' => ∃ r, e = .returned r ∧ Own w' w.heap.size r l ∧ Below w.heap.size w w' := by
  go_enter Try.func12, Try.ntmps12
  go_wp2_with (at_builtin
               refine wpList_app rfl (.tmp 4) (.tmp 5) rfl w.heap.size (.slice none 0 0) [] rfl (Own.nil _ _) v l rfl h (by simp; omega) (Nat.le_refl _) ?_
               intro v1 w1 hown1 hb1)
  go_ret
  exact ⟨v1, rfl, by simpa using hown1, hb1⟩

theorem str_dec (l r : List Nat) (hl : ∀ x ∈ l, x < 256) (hr : ∀ x ∈ r, x < 256) : ((str l).toList == (str r).toList) = decide (l = r) := by
  have h : (str l).toList = (str r).toList ↔ l = r := by
    rw [← str_eq l r hl hr]
    refine ⟨fun e => ?_, fun e => by rw [e]⟩
    rw [ByteArray.toList_eq, ByteArray.toList_eq] at e
    exact ByteArray.ext (Array.toList_inj.1 e)
  rw [Bool.eq_iff_iff, beq_iff_eq, decide_eq_true_iff]
  exact h

set_option maxHeartbeats 400000 in
theorem eqBytes (v u : Value) (l r : List Nat) (w : World) (hv : Rd w w.heap.size v l) (hu : Rd w w.heap.size u r) :
    Calls Try.prog 17 #[v, u] w fun e w' => e = .returned (.bool (decide (l = r))) ∧ w = w' := by
  have h1 := run_str w _ v l hv
  have h2 := run_str w _ u r hu
  have h3 := Lib.hid (str_dec l r hv.bytes hu.bytes)
  go_enter Try.func17, Try.ntmps17
  go_wp2
  go_ret
  exact ⟨congrArg Ending.returned (congrArg Value.bool h3.out), rfl⟩

theorem Rd.take {w : World} {B : Nat} {a : Option Addr} {l : List Nat} {c : Nat} (h : Rd w B (.slice a l.length c) l) (k : Nat) : Rd w B (.slice a (l.take k).length c) (l.take k) := by
  obtain ⟨a', c', e, h1, h2, h3, h4, h5⟩ := h
  injection e with e1 e2 e3
  subst e1 e3
  refine ⟨_, _, rfl, by rw [List.length_take]; omega, h2, h3, fun x hx => h4 x (List.mem_of_mem_take hx), fun hp => ?_⟩
  rw [List.length_take] at hp ⊢
  obtain ⟨b, off, rfl, hb, hc⟩ := h5 (by omega)
  refine ⟨b, off, rfl, hb, fun j hj => ?_⟩
  rw [hc j (by omega)]
  simp [show j < k by omega]

theorem pow_128 (k : Nat) : (2 : Nat) ^ (7 * k) = 128 ^ k := by rw [Nat.pow_mul]
theorem and_127 : ∀ d : Fin 256, bits BinOp.and IntKind.u8 (d.val : Int) 127 = ((d.val % 128 : Nat) : Int) := by decide +kernel
theorem and_128 : ∀ d : Fin 256, (bits BinOp.and IntKind.u8 (d.val : Int) 128 == 0) = decide (d.val < 128) := by decide +kernel
theorem top_bit (d : Nat) (hd : d < 256) (h : d < 128) : (bits BinOp.and IntKind.u8 (d : Int) 128 == 0) = true := by
  have := and_128 ⟨d, hd⟩; simpa [h] using this
theorem top_bit_not (d : Nat) (hd : d < 256) (h : 128 ≤ d) : (bits BinOp.and IntKind.u8 (d : Int) 128 == 0) = false := by
  have := and_128 ⟨d, hd⟩
  rw [this, decide_eq_false_iff_not]
  simp; omega
theorem digit_room (k d : Nat) (hk : k < 9 ∨ k = 9 ∧ d ≤ 1) : d % 128 * 128 ^ k < 18446744073709551616 := by
  rcases hk with hk | ⟨rfl, hd⟩
  · have h1 : 128 ^ k ≤ 128 ^ 8 := Nat.pow_le_pow_right (by omega) (by omega)
    have h2 : d % 128 * 128 ^ k ≤ 127 * 128 ^ 8 := Nat.mul_le_mul (by omega) h1
    omega
  · have : d = 0 ∨ d = 1 := by omega
    rcases this with rfl | rfl <;> decide
theorem acc_room (k acc : Nat) (hk : k ≤ 9) (h : acc < 128 ^ k) : acc < 9223372036854775808 := by
  have h1 : 128 ^ k ≤ 128 ^ 9 := Nat.pow_le_pow_right (by omega) hk
  omega
/-- A digit is joined to those that were read. -/
theorem get_step (acc k d : Nat) (hd : d < 256) (hacc : acc < 128 ^ k) (hk : k < 9 ∨ k = 9 ∧ d ≤ 1) :
    bits BinOp.or IntKind.u64 (acc : Int) (IntKind.u64.wrap (IntKind.u64.wrap (bits BinOp.and IntKind.u8 (d : Int) 127) * 2 ^ (7 * k))) = ((acc + d % 128 * 128 ^ k : Nat) : Int) := by
  have h1 := and_127 ⟨d, hd⟩
  simp only at h1
  have h3 := digit_room k d hk
  have h4 := acc_room k acc (by omega) hacc
  rw [h1, IntKind.wrap_u64, IntKind.wrap_u64, show ((d % 128 : Nat) : Int) % 18446744073709551616 = ((d % 128 : Nat) : Int) by omega,
    show ((d % 128 : Nat) : Int) * 2 ^ (7 * k) = ((d % 128 * 128 ^ k : Nat) : Int) by rw [← pow_128]; simp,
    show ((d % 128 * 128 ^ k : Nat) : Int) % 18446744073709551616 = ((d % 128 * 128 ^ k : Nat) : Int) by omega,
    u64_or_nat _ _ (by omega) h3, Nat.or_comm, nat_join (7 * k) _ acc (by rw [pow_128]; exact Nat.mul_mod_left _ _) (by rw [pow_128]; exact hacc), Nat.add_comm]
theorem acc_step (acc k d : Nat) (hacc : acc < 128 ^ k) : acc + d % 128 * 128 ^ k < 128 ^ (k + 1) := by
  rw [Leb.pow_step]
  have : d % 128 * 128 ^ k ≤ 127 * 128 ^ k := Nat.mul_le_mul (by omega) (Nat.le_refl _)
  omega
theorem ret3 {a a' b b' c c' : Int} (h1 : a = a') (h2 : b = b') (h3 : c = c') :
    Ending.returned (.tuple #[.int .u64 a, .int .i64 b, .int .i64 c]) = .returned (.tuple #[.int .u64 a', .int .i64 b', .int .i64 c']) := by rw [h1, h2, h3]

set_option maxHeartbeats 1000000 in
theorem get (v : Value) (l : List Nat) (w : World) (h : Rd w w.heap.size v l) :
    Calls Try.prog 43 #[v] w fun e w' => e = .returned (.tuple #[.int .u64 (Leb.dec l).1, .int .i64 (Leb.dec l).2.1, .int .i64 (Leb.dec l).2.2]) ∧ w = w' := by
  have hm := h.len
  unfold maxLen at hm
  obtain ⟨a, c, rfl, h1, h2, h3, h4, h5⟩ := id h
  clear h
  have H5 := Lib.hid h5
  have H4 := Lib.hid h4
  clear h3 h4 h5 h2 h1
  go_enter Try.func43, Try.ntmps43
  go_wp2
  go_loop [2, 9] (fun n i => ∃ k acc : Nat, k ≤ l.length ∧ k ≤ 9 ∧ i = .int .i64 k ∧ n = .int .u64 acc ∧ acc < 128 ^ k ∧ Hid (Leb.decF k acc (l.drop k) = Leb.dec l)) (fun _ i => l.length - (intOf i).toNat)
  case atStart => exact ⟨0, 0, Nat.zero_le _, by omega, rfl, rfl, by simp, Lib.hid rfl⟩
  case round =>
    obtain ⟨k, acc, hk, hk9, rfl, rfl, hacc, HD⟩ := hrel
    by_cases hlt : k < l.length
    · obtain ⟨b, off, rfl, _, hc⟩ := H5.out (by omega)
      have hd := H4.out (l.getD k 0) (by simp [List.getElem?_eq_getElem hlt])
      have hcell := hc k hlt
      clear hc
      have hdrop : l.drop k = l.getD k 0 :: l.drop (k + 1) := by
        rw [List.drop_eq_getElem_cons hlt]; simp [List.getElem?_eq_getElem hlt]
      rw [hdrop] at HD
      clear hdrop H5 H4
      generalize l.getD k 0 = d at *
      by_cases hA : 9 ≤ k ∧ 1 < d
      · have HE := Lib.hid (HD.out.symm.trans (by rw [Leb.decF, if_pos ⟨by omega, hA.2⟩]))
        obtain ⟨hA1, hA2⟩ := hA
        go_wp2
        go_ret3
        rw [HE.out]
        exact ⟨rfl, rfl⟩
      · by_cases hB : 0 < k ∧ d ≤ 0
        · have HE := Lib.hid (HD.out.symm.trans (by rw [Leb.decF, if_neg (by omega), if_pos ⟨hB.1, by omega⟩]))
          obtain ⟨hB1, hB2⟩ := hB
          clear hA
          by_cases h9 : k < 9
          all_goals go_wp2
          all_goals go_ret3
          all_goals rw [HE.out]
          all_goals exact ⟨rfl, rfl⟩
        · by_cases hC : d < 128
          · have HE := Lib.hid (HD.out.symm.trans (by rw [Leb.decF, if_neg (by omega), if_neg (by omega), if_pos hC]))
            have HS := Lib.hid (get_step acc k d hd hacc (by omega))
            have ht := top_bit d hd hC
            have h3 : k ≤ 0 ∨ (0 < k ∧ k < 9 ∧ 0 < d) ∨ (9 ≤ k ∧ 0 < d ∧ d ≤ 1) := by omega
            clear hA hB
            rcases h3 with h0 | ⟨h0, h9, hd0⟩ | ⟨h9, hd0, hd1⟩
            · go_wp2
              go_ret3
              rw [HE.out]
              exact ⟨ret3 (HS.out.trans (by rw [Nat.mod_eq_of_lt hC])) (by dsimp only; omega) rfl, rfl⟩
            · go_wp2
              go_ret3
              rw [HE.out]
              exact ⟨ret3 (HS.out.trans (by rw [Nat.mod_eq_of_lt hC])) (by dsimp only; omega) rfl, rfl⟩
            · have HS' : Hid (bits BinOp.or IntKind.u64 (acc : Int) (IntKind.u64.wrap (IntKind.u64.wrap (bits BinOp.and IntKind.u8 (d : Int) 127) * 9223372036854775808)) = ((acc + d * 128 ^ k : Nat) : Int)) := by
                obtain rfl : k = 9 := by omega
                have := HS.out
                rw [Nat.mod_eq_of_lt hC] at this
                exact Lib.hid this
              go_wp2
              go_ret3
              rw [HE.out]
              exact ⟨ret3 HS'.out (by dsimp only; omega) rfl, rfl⟩
          · have HE := Lib.hid (HD.out.symm.trans (by rw [Leb.decF, if_neg (by omega), if_neg (by omega), if_neg hC]))
            have HS := Lib.hid (get_step acc k d hd hacc (by omega))
            have ht := top_bit_not d hd (by omega)
            have h9 : k < 9 := by omega
            clear hA hB
            by_cases h0 : 0 < k
            · go_wp2
              go_round
              case rel => exact ⟨k + 1, acc + d % 128 * 128 ^ k, by omega, by omega, by go_num, by rw [HS.out], acc_step acc k d hacc, Lib.hid HE.out.symm⟩
              case measure => simp [intOf]; omega
            · go_wp2
              go_round
              case rel => exact ⟨k + 1, acc + d % 128 * 128 ^ k, by omega, by omega, by go_num, by rw [HS.out], acc_step acc k d hacc, Lib.hid HE.out.symm⟩
              case measure => simp [intOf]; omega
    · have HE := Lib.hid (HD.out.symm.trans (by rw [List.drop_eq_nil_of_le (by omega), Leb.decF]))
      go_wp2
      go_ret3
      rw [HE.out]
      exact ⟨rfl, rfl⟩
end Go.Proofs.Ytenfjmdajlhfoaa
