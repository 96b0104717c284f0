/- Digits: what four digits behind \u say, of the program and of the reference. -/
import Derived.Test.YtanjdjiigfdnmaaGreatDoorRquote
import Derived.Deep.QuietTactic
import Derived.BigQuiet
namespace Go.Proofs.YtanjdjiigfdnmaaGreatDoor
open Go.RowKit
set_option linter.unusedVariables false

set_option maxHeartbeats 1000000 in
theorem digit_yes (c : Nat) (w : World) (h : Utf.dig c ≠ 16) (hc : c < 256) :
    Calls Tryz.prog 211 #[.int .u8 (c : Nat)] w fun e w' => e = .returned (.tuple #[.int .i32 (Utf.dig c : Nat), .bool true]) ∧ w = w' := by
  by_cases h1 : 48 ≤ c ∧ c ≤ 57
  · have HD := Lib.hid (show Utf.dig c = c - 48 by unfold Utf.dig; rw [if_pos h1])
    obtain ⟨h1, h2⟩ := h1
    have a1 : (48 : Int) ≤ c := by omega
    have a2 : (c : Int) ≤ 57 := by omega
    have HX := Lib.hid (show ((c - 48 : Nat) : Int) = (c : Int) - 48 by omega)
    clear h h1 h2 hc
    generalize (c : Int) = x at *
    go_enter Tryz.func211, Tryz.ntmps211
    go_wp2
    go_ret2
    exact ⟨by rw [HD.out, HX.out]; rfl, rfl⟩
  · by_cases h3 : 97 ≤ c ∧ c ≤ 102
    · have HD := Lib.hid (show Utf.dig c = c - 87 by unfold Utf.dig; rw [if_neg h1, if_pos h3])
      obtain ⟨h3, h2⟩ := h3
      have a1 : (97 : Int) ≤ c := by omega
      have a2 : (c : Int) ≤ 102 := by omega
      have HX := Lib.hid (show ((c - 87 : Nat) : Int) = (c : Int) - 97 + 10 by omega)
      clear h h1 h2 h3 hc
      generalize (c : Int) = x at *
      go_enter Tryz.func211, Tryz.ntmps211
      go_wp2
      go_ret2
      exact ⟨by rw [HD.out, HX.out]; rfl, rfl⟩
    · by_cases h4 : 65 ≤ c ∧ c ≤ 70
      · have HD := Lib.hid (show Utf.dig c = c - 55 by unfold Utf.dig; rw [if_neg h1, if_neg h3, if_pos h4])
        obtain ⟨h4, h2⟩ := h4
        have a1 : (65 : Int) ≤ c := by omega
        have a2 : (c : Int) ≤ 70 := by omega
        have HX := Lib.hid (show ((c - 55 : Nat) : Int) = (c : Int) - 65 + 10 by omega)
        clear h h1 h2 h3 h4 hc
        generalize (c : Int) = x at *
        go_enter Tryz.func211, Tryz.ntmps211
        go_wp2
        go_ret2
        exact ⟨by rw [HD.out, HX.out]; rfl, rfl⟩
      · exact absurd (by unfold Utf.dig; rw [if_neg h1, if_neg h3, if_neg h4]) h
set_option maxHeartbeats 1000000 in
theorem digit_no (c : Nat) (w : World) (h : Utf.dig c = 16) (hc : c < 256) :
    Calls Tryz.prog 211 #[.int .u8 (c : Nat)] w fun e w' => e = .returned (.tuple #[.int .i32 0, .bool false]) ∧ w = w' := by
  have h1 : ¬ (48 ≤ c ∧ c ≤ 57) := fun e => by unfold Utf.dig at h; rw [if_pos e] at h; omega
  have h2 : ¬ (97 ≤ c ∧ c ≤ 102) := fun e => by unfold Utf.dig at h; rw [if_neg h1, if_pos e] at h; omega
  have h3 : ¬ (65 ≤ c ∧ c ≤ 70) := fun e => by unfold Utf.dig at h; rw [if_neg h1, if_neg h2, if_pos e] at h; omega
  have r : (c : Int) < 48 ∨ (57 < (c : Int) ∧ (c : Int) < 65) ∨ (70 < (c : Int) ∧ (c : Int) < 97) ∨ 102 < (c : Int) := by omega
  clear h h1 h2 h3
  have hc' : (c : Int) < 256 := by omega
  have hc0 : 0 ≤ (c : Int) := by omega
  clear hc
  generalize (c : Int) = x at *
  rcases r with r | ⟨r, r'⟩ | ⟨r, r'⟩ | r
  all_goals
    go_enter Tryz.func211, Tryz.ntmps211
    go_wp2
    go_ret2
    exact ⟨rfl, rfl⟩

/-- Can a number from a to b stand there? -/
def can (second : Bool) (a b : Int) : Bool := if second then decide (56320 ≤ b) && decide (a < 57344) else decide (a < 56320) || decide (57344 ≤ b)
def canF (second : Bool) : Nat := if second then 209 else 208
set_option maxHeartbeats 1000000 in
theorem can_is (second : Bool) (a b : Int) (w : World) (r : Bool) (h : can second a b = r) :
    Calls Tryz.prog (canF second) #[.int .i32 a, .int .i32 b] w fun e w' => e = .returned (.bool r) ∧ w = w' := by
  have HH := Lib.hid h
  clear h
  cases second
  · unfold canF
    simp only [Bool.false_eq_true, if_false]
    by_cases h1 : a < 56320
    · go_enter Tryz.func208, Tryz.ntmps208
      go_wp2
      go_ret
      exact ⟨ret_bool (by rw [← HH.out]; unfold can; rw [if_neg (by simp), decide_eq_true h1, Bool.true_or]), rfl⟩
    · by_cases h2 : 57344 ≤ b
      · go_enter Tryz.func208, Tryz.ntmps208
        go_wp2
        go_ret
        exact ⟨ret_bool (by rw [← HH.out]; unfold can; simp [h2]), rfl⟩
      · go_enter Tryz.func208, Tryz.ntmps208
        go_wp2
        go_ret
        exact ⟨ret_bool (by rw [← HH.out]; unfold can; rw [if_neg (by simp), decide_eq_false (by omega), decide_eq_false (by omega), Bool.or_false]), rfl⟩
  · unfold canF
    simp only [if_true]
    by_cases h1 : 56320 ≤ b
    · by_cases h2 : a < 57344
      · go_enter Tryz.func209, Tryz.ntmps209
        go_wp2
        go_ret
        exact ⟨ret_bool (by rw [← HH.out]; unfold can; simp [h1, h2]), rfl⟩
      · go_enter Tryz.func209, Tryz.ntmps209
        go_wp2
        go_ret
        exact ⟨ret_bool (by rw [← HH.out]; unfold can; simp [h1, h2]), rfl⟩
    · go_enter Tryz.func209, Tryz.ntmps209
      go_wp2
      go_ret
      exact ⟨ret_bool (by rw [← HH.out]; unfold can; rw [if_pos rfl, decide_eq_false (by omega), Bool.false_and]), rfl⟩

/-! ### the reference -/
def hexCS : ByteArray := ⟨#[48, 49, 50, 51, 52, 53, 54, 55, 56, 57, 65, 66, 67, 68, 69, 70]⟩
theorem hexC_at : ∀ x : Fin 16, (hexCS[x.val]'(x.isLt)).toNat = Utf.hexC x.val := by decide
theorem hexC_run (x : Nat) (h : x < 16) (k : IntKind) (w : World) : (Instr.index 9 (.string ⟨#[48, 49, 50, 51, 52, 53, 54, 55, 56, 57, 65, 66, 67, 68, 69, 70]⟩) (.int k (x : Int))).run Tryz.prog w = .ok (.int .u8 (Utf.hexC x : Nat)) w := by
  refine (run_index_string (P := Tryz.prog) w 9 hexCS k _ Tryz.underlying9).trans ?_
  rw [dif_pos ⟨by omega, by show (x : Int) < 16; omega⟩]
  have := hexC_at ⟨x, h⟩
  simp only [Int.toNat_natCast]
  exact congrArg (fun y : Nat => Result.ok (Value.int .u8 (y : Int)) w) this
theorem dig_hex (c k : Nat) (hk : k < 16) : Utf.dig c = k ↔ (c = Utf.hex k ∨ c = Utf.hexC k) := by
  unfold Utf.dig Utf.hex Utf.hexC
  by_cases h1 : 48 ≤ c ∧ c ≤ 57
  · rw [if_pos h1]; split <;> omega
  · rw [if_neg h1]
    by_cases h2 : 97 ≤ c ∧ c ≤ 102
    · rw [if_pos h2]; split <;> omega
    · rw [if_neg h2]
      by_cases h3 : 65 ≤ c ∧ c ≤ 70
      · rw [if_pos h3]; split <;> omega
      · rw [if_neg h3]; split <;> omega
theorem dig_le (c : Nat) : Utf.dig c ≤ 16 := by
  by_cases h : Utf.dig c = 16
  · omega
  · have := Utf.dig_lt c h; omega

theorem pow_lt (k n : Nat) (hk : k ≤ 4) (h : n < 16 ^ k) : n < 65536 := by
  have : 16 ^ k ≤ 16 ^ 4 := Nat.pow_le_pow_right (by omega) hk
  omega
theorem drop_at (l : List Nat) (k : Nat) (h : k < l.length) : l.drop k = l.getD k 0 :: l.drop (k + 1) := by
  rw [List.drop_eq_getElem_cons h]; simp [List.getD_eq_getElem?_getD, List.getElem?_eq_getElem h]
/-- One step of digits. -/
theorem hx_step (second : Bool) (m k n : Nat) (l : List Nat) : Utf.hxF second (m + 1) k n (l.drop k) =
    if k < l.length then (if Utf.dig (l.getD k 0) = 16 then (0, 41) else if Utf.bad second k (16 * n + Utf.dig (l.getD k 0)) = true then (0, 41) else Utf.hxF second m (k + 1) (16 * n + Utf.dig (l.getD k 0)) (l.drop (k + 1))) else (0, 3) := by
  by_cases h : k < l.length
  · rw [if_pos h, drop_at l k h, Utf.hxF]
  · rw [if_neg h, List.drop_of_length_le (by omega), Utf.hxF]
def tup (p : Nat × Nat) : Ending := .returned (.tuple #[.int .i64 (p.1 : Nat), .int .i64 (p.2 : Nat)])
end Go.Proofs.YtanjdjiigfdnmaaGreatDoor
