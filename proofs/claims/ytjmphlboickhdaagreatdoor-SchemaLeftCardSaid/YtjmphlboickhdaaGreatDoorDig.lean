/- Digits: what four digits behind \u say, of the program and of the reference. -/
import Derived.Test.YtjmphlboickhdaaGreatDoorRquote
import Derived.Deep.QuietTactic
import Derived.BigQuiet
namespace Go.Proofs.YtjmphlboickhdaaGreatDoor
open Go.RowKit
set_option linter.unusedVariables false

set_option maxHeartbeats 1000000 in
theorem digit_yes (c : Nat) (w : World) (h : Utf.dig c ≠ 16) (hc : c < 256) :
    Calls Tryz.prog 196 #[.int .u8 (c : Nat)] w fun e w' => e = .returned (.tuple #[.int .i32 (Utf.dig c : Nat), .bool true]) ∧ w = w' := by
  by_cases h1 : 48 ≤ c ∧ c ≤ 57
  · have HD := Lib.hid (show Utf.dig c = c - 48 by unfold Utf.dig; rw [if_pos h1])
    obtain ⟨h1, h2⟩ := h1
    have a1 : (48 : Int) ≤ c := by omega
    have a2 : (c : Int) ≤ 57 := by omega
    have HX := Lib.hid (show ((c - 48 : Nat) : Int) = (c : Int) - 48 by omega)
    clear h h1 h2 hc
    generalize (c : Int) = x at *
    go_enter Tryz.func196, Tryz.ntmps196
    go_wp2
    go_ret2
    exact ⟨by rw [HD.out, HX.out]; rfl, rfl⟩
  · by_cases h3 : 97 ≤ c ∧ c ≤ 102
    · have HD := Lib.hid (show Utf.dig c = c - 87 by unfold Utf.dig; rw [if_neg h1, if_pos h3])
      obtain ⟨h3, h2⟩ := h3
      have a1 : (97 : Int) ≤ c := by omega
      have a2 : (c : Int) ≤ 102 := by omega
      have HX := Lib.hid (show ((c - 87 : Nat) : Int) = (c : Int) - 97 + 10 by omega)
      clear h h1 h2 h3 hc
      generalize (c : Int) = x at *
      go_enter Tryz.func196, Tryz.ntmps196
      go_wp2
      go_ret2
      exact ⟨by rw [HD.out, HX.out]; rfl, rfl⟩
    · by_cases h4 : 65 ≤ c ∧ c ≤ 70
      · have HD := Lib.hid (show Utf.dig c = c - 55 by unfold Utf.dig; rw [if_neg h1, if_neg h3, if_pos h4])
        obtain ⟨h4, h2⟩ := h4
        have a1 : (65 : Int) ≤ c := by omega
        have a2 : (c : Int) ≤ 70 := by omega
        have HX := Lib.hid (show ((c - 55 : Nat) : Int) = (c : Int) - 65 + 10 by omega)
        clear h h1 h2 h3 h4 hc
        generalize (c : Int) = x at *
        go_enter Tryz.func196, Tryz.ntmps196
        go_wp2
        go_ret2
        exact ⟨by rw [HD.out, HX.out]; rfl, rfl⟩
      · exact absurd (by unfold Utf.dig; rw [if_neg h1, if_neg h3, if_neg h4]) h
set_option maxHeartbeats 1000000 in
theorem digit_no (c : Nat) (w : World) (h : Utf.dig c = 16) (hc : c < 256) :
    Calls Tryz.prog 196 #[.int .u8 (c : Nat)] w fun e w' => e = .returned (.tuple #[.int .i32 0, .bool false]) ∧ w = w' := by
  have h1 : ¬ (48 ≤ c ∧ c ≤ 57) := fun e => by unfold Utf.dig at h; rw [if_pos e] at h; omega
  have h2 : ¬ (97 ≤ c ∧ c ≤ 102) := fun e => by unfold Utf.dig at h; rw [if_neg h1, if_pos e] at h; omega
  have h3 : ¬ (65 ≤ c ∧ c ≤ 70) := fun e => by unfold Utf.dig at h; rw [if_neg h1, if_neg h2, if_pos e] at h; omega
  have r : (c : Int) < 48 ∨ (57 < (c : Int) ∧ (c : Int) < 65) ∨ (70 < (c : Int) ∧ (c : Int) < 97) ∨ 102 < (c : Int) := by omega
  clear h h1 h2 h3
  have hc' : (c : Int) < 256 := by omega
  have hc0 : 0 ≤ (c : Int) := by omega
  clear hc
  generalize (c : Int) = x at *
  rcases r with r | ⟨r, r'⟩ | ⟨r, r'⟩ | r
  all_goals
    go_enter Tryz.func196, Tryz.ntmps196
    go_wp2
    go_ret2
    exact ⟨rfl, rfl⟩

/-- Can a number from a to b stand there? -/
def can (second : Bool) (a b : Int) : Bool := if second then decide (56320 ≤ b) && decide (a < 57344) else decide (a < 56320) || decide (57344 ≤ b)
def canF (second : Bool) : Nat := if second then 194 else 193
set_option maxHeartbeats 1000000 in
theorem can_is (second : Bool) (a b : Int) (w : World) (r : Bool) (h : can second a b = r) :
    Calls Tryz.prog (canF second) #[.int .i32 a, .int .i32 b] w fun e w' => e = .returned (.bool r) ∧ w = w' := by
  have HH := Lib.hid h
  clear h
  cases second
  · unfold canF
    simp only [Bool.false_eq_true, if_false]
    by_cases h1 : a < 56320
    · go_enter Tryz.func193, Tryz.ntmps193
      go_wp2
      go_ret
      exact ⟨ret_bool (by rw [← HH.out]; unfold can; rw [if_neg (by simp), decide_eq_true h1, Bool.true_or]), rfl⟩
    · by_cases h2 : 57344 ≤ b
      · go_enter Tryz.func193, Tryz.ntmps193
        go_wp2
        go_ret
        exact ⟨ret_bool (by rw [← HH.out]; unfold can; simp [h2]), rfl⟩
      · go_enter Tryz.func193, Tryz.ntmps193
        go_wp2
        go_ret
        exact ⟨ret_bool (by rw [← HH.out]; unfold can; rw [if_neg (by simp), decide_eq_false (by omega), decide_eq_false (by omega), Bool.or_false]), rfl⟩
  · unfold canF
    simp only [if_true]
    by_cases h1 : 56320 ≤ b
    · by_cases h2 : a < 57344
      · go_enter Tryz.func194, Tryz.ntmps194
        go_wp2
        go_ret
        exact ⟨ret_bool (by rw [← HH.out]; unfold can; simp [h1, h2]), rfl⟩
      · go_enter Tryz.func194, Tryz.ntmps194
        go_wp2
        go_ret
        exact ⟨ret_bool (by rw [← HH.out]; unfold can; simp [h1, h2]), rfl⟩
    · go_enter Tryz.func194, Tryz.ntmps194
      go_wp2
      go_ret
      exact ⟨ret_bool (by rw [← HH.out]; unfold can; rw [if_pos rfl, decide_eq_false (by omega), Bool.false_and]), rfl⟩

/-! ### the reference -/
def hexCS : ByteArray := ⟨#[48, 49, 50, 51, 52, 53, 54, 55, 56, 57, 65, 66, 67, 68, 69, 70]⟩
theorem hexC_at : ∀ x : Fin 16, (hexCS[x.val]'(x.isLt)).toNat = Utf.hexC x.val := by decide
theorem hexC_run (x : Nat) (h : x < 16) (k : IntKind) (w : World) : (Instr.index 9 (.string ⟨#[48, 49, 50, 51, 52, 53, 54, 55, 56, 57, 65, 66, 67, 68, 69, 70]⟩) (.int k (x : Int))).run Tryz.prog w = .ok (.int .u8 (Utf.hexC x : Nat)) w := by
  refine (run_index_string (P := Tryz.prog) w 9 hexCS k _ Tryz.underlying9).trans ?_
  rw [dif_pos ⟨by omega, by show (x : Int) < 16; omega⟩]
  have := hexC_at ⟨x, h⟩
  simp only [Int.toNat_natCast]
  exact congrArg (fun y : Nat => Result.ok (Value.int .u8 (y : Int)) w) this
theorem dig_hex (c k : Nat) (hk : k < 16) : Utf.dig c = k ↔ (c = Utf.hex k ∨ c = Utf.hexC k) := by
  unfold Utf.dig Utf.hex Utf.hexC
  by_cases h1 : 48 ≤ c ∧ c ≤ 57
  · rw [if_pos h1]; split <;> omega
  · rw [if_neg h1]
    by_cases h2 : 97 ≤ c ∧ c ≤ 102
    · rw [if_pos h2]; split <;> omega
    · rw [if_neg h2]
      by_cases h3 : 65 ≤ c ∧ c ≤ 70
      · rw [if_pos h3]; split <;> omega
      · rw [if_neg h3]; split <;> omega
theorem dig_le (c : Nat) : Utf.dig c ≤ 16 := by
  by_cases h : Utf.dig c = 16
  · omega
  · have := Utf.dig_lt c h; omega
set_option maxHeartbeats 1000000 in
set_option maxRecDepth 100000 in
theorem rdigit (c : Nat) (w : World) (hc : c < 256) (D : Nat) (hD : Utf.dig c = D) (V : Int) (hV : (if D = 16 then -1 else (D : Int)) = V) :
    Calls Tryz.prog 189 #[.int .u8 (c : Nat)] w fun e w' => e = .returned (.int .i64 V) ∧ w = w' := by
  have hle := dig_le c
  rw [hD] at hle
  have HD := Lib.hid hD
  have HV := Lib.hid hV
  clear hD hV
  go_enter Tryz.func189, Tryz.ntmps189
  go_wp2
  go_loop [3] (fun i => ∃ k : Nat, k ≤ D ∧ i = .int .i64 k) (fun i => 16 - (intOf i).toNat)
  case atStart => exact ⟨0, by omega, rfl⟩
  case round =>
    obtain ⟨k, hk, rfl⟩ := hrel
    by_cases hlt : k < 16
    · have hlt' : (k : Int) < 16 := by omega
      have x1 := hex_run k hlt .i64
      have x2 := hexC_run k hlt .i64
      have hdx := dig_hex c k hlt
      rw [HD.out] at hdx
      have y1 : Utf.hex k < 256 := by unfold Utf.hex; split <;> omega
      have y2 : Utf.hexC k < 256 := by unfold Utf.hexC; split <;> omega
      generalize Utf.hex k = p at *
      generalize Utf.hexC k = q at *
      by_cases hd : D = k
      · have hor := hdx.1 hd
        have HK := Lib.hid hd
        clear hdx hd
        by_cases hp : c = p
        · have e1 : ((c : Int) == (p : Int)) = true := by simp; omega
          clear hor hp
          go_wp2
          go_ret
          exact ⟨ret_int (by rw [← HV.out, HK.out, if_neg (by omega)]), rfl⟩
        · have hq : c = q := hor.resolve_left hp
          have e1 : ((c : Int) == (p : Int)) = false := by simp; omega
          have e2 : ((c : Int) == (q : Int)) = true := by simp; omega
          clear hor hp hq
          go_wp2
          go_ret
          exact ⟨ret_int (by rw [← HV.out, HK.out, if_neg (by omega)]), rfl⟩
      · have hno : ¬ (c = p ∨ c = q) := fun e => hd (hdx.2 e)
        have e1 : ((c : Int) == (p : Int)) = false := by simp; omega
        have e2 : ((c : Int) == (q : Int)) = false := by simp; omega
        clear hdx hno
        go_wp2
        go_round
        case rel => exact ⟨k + 1, by omega, by go_num⟩
        case measure => simp [intOf]; omega
    · have hlt' : ¬ ((k : Int) < 16) := by omega
      have hd : D = 16 := by omega
      have HK := Lib.hid hd
      clear hd
      go_wp2
      go_ret
      exact ⟨ret_int (by rw [← HV.out, HK.out, if_pos rfl]), rfl⟩

theorem pow_lt (k n : Nat) (hk : k ≤ 4) (h : n < 16 ^ k) : n < 65536 := by
  have : 16 ^ k ≤ 16 ^ 4 := Nat.pow_le_pow_right (by omega) hk
  omega
theorem drop_at (l : List Nat) (k : Nat) (h : k < l.length) : l.drop k = l.getD k 0 :: l.drop (k + 1) := by
  rw [List.drop_eq_getElem_cons h]; simp [List.getD_eq_getElem?_getD, List.getElem?_eq_getElem h]
/-- One step of digits. -/
theorem hx_step (second : Bool) (m k n : Nat) (l : List Nat) : Utf.hxF second (m + 1) k n (l.drop k) =
    if k < l.length then (if Utf.dig (l.getD k 0) = 16 then (0, 41) else if Utf.bad second k (16 * n + Utf.dig (l.getD k 0)) = true then (0, 41) else Utf.hxF second m (k + 1) (16 * n + Utf.dig (l.getD k 0)) (l.drop (k + 1))) else (0, 3) := by
  by_cases h : k < l.length
  · rw [if_pos h, drop_at l k h, Utf.hxF]
  · rw [if_neg h, List.drop_of_length_le (by omega), Utf.hxF]
def tup (p : Nat × Nat) : Ending := .returned (.tuple #[.int .i64 (p.1 : Nat), .int .i64 (p.2 : Nat)])
set_option maxHeartbeats 4000000 in
set_option maxRecDepth 100000 in
theorem rhalf (s : ByteArray) (second : Bool) (w : World) (hm : s.size ≤ maxLen) (R : Nat × Nat) (hR : Utf.hx second (bl s) = R) :
    Calls Tryz.prog 180 #[.string s, .bool second] w fun e w' => e = tup R ∧ w = w' := by
  unfold maxLen at hm
  have H0 := Lib.hid (show Utf.hxF second (4 - 0) 0 0 ((bl s).drop 0) = R from hR)
  clear hR
  go_enter Tryz.func180, Tryz.ntmps180
  go_wp2
  go_loop [6, 7] (fun v i => ∃ k n : Nat, k ≤ 4 ∧ i = .int .i64 k ∧ v = .int .i64 n ∧ n < 16 ^ k ∧ Hid (Utf.hxF second (4 - k) k n ((bl s).drop k) = R)) (fun _ i => 4 - (intOf i).toNat)
  case atStart => exact ⟨0, 0, by omega, rfl, rfl, by simp, H0⟩
  case round =>
    clear H0
    obtain ⟨k, n, hk, rfl, rfl, hn, HS⟩ := hrel
    have hn2 := pow_lt k n hk hn
    by_cases hlt : k < 4
    · have hlt' : (k : Int) < 4 := by omega
      have hst := HS.out
      rw [show 4 - k = 3 - k + 1 by omega, hx_step, bl_length] at hst
      by_cases hks : k < s.size
      · rw [if_pos hks] at hst
        have hks' : ¬ ((s.size : Int) ≤ k) := by omega
        have hx := bl_at s k hks
        have hxb := Utf.getD_byte (bl_byte s) k
        generalize (bl s).getD k 0 = c at *
        have C := rdigit c w hxb _ rfl _ rfl
        have hdl := Utf.dig_lt c
        by_cases hd : Utf.dig c = 16
        · rw [if_pos hd] at hst
          rw [hd, if_pos rfl] at C
          have HR := Lib.hid hst
          clear hst hdl hd
          go_wp2_with (go_at_call 189; refine C.mono ?_; rintro e w' ⟨rfl, hw'⟩; subst hw')
          go_ret2
          exact ⟨by rw [← HR.out]; rfl, rfl⟩
        · rw [if_neg hd] at hst
          rw [if_neg hd] at C
          have hdl2 := hdl hd
          have hn3 : 16 * n + Utf.dig c < 16 ^ (k + 1) := by rw [Nat.pow_succ]; omega
          clear hdl hd
          generalize Utf.dig c = d at *
          have HN3 := Lib.hid hn3
          clear hn3
          by_cases hb : Utf.bad second k (16 * n + d) = true
          · rw [if_pos hb] at hst
            have HR := Lib.hid hst
            clear hst HS HN3
            have hk4 : k = 0 ∨ k = 1 ∨ (2 ≤ k) := by omega
            rcases hk4 with hk0 | hk0 | hk0
            · have hn0 : n = 0 := by subst hk0; simp at hn; exact hn
              have d0 : ((k : Int) == 0) = true := by simp; omega
              have d1 : ((k : Int) == 1) = false := by simp; omega
              rw [hk0, hn0] at hb
              have HN0 := Lib.hid hn0
              cases second
              · simp [Utf.bad] at hb
              · have e2 : ((16 * (n : Int) + d) != 13) = true := by simp [Utf.bad] at hb; simp; omega
                clear hb hk0 hn0
                go_wp2_with (go_at_call 189; refine C.mono ?_; rintro e w' ⟨rfl, hw'⟩; subst hw')
                go_ret2
                exact ⟨by rw [← HR.out]; rfl, rfl⟩
            · have d0 : ((k : Int) == 0) = false := by simp; omega
              have d1 : ((k : Int) == 1) = true := by simp; omega
              rw [hk0] at hb
              cases second
              · have e1 : (220 : Int) ≤ 16 * (n : Int) + d := by simp [Utf.bad] at hb; omega
                have e2 : 16 * (n : Int) + d ≤ 223 := by simp [Utf.bad] at hb; omega
                clear hb hk0
                go_wp2_with (go_at_call 189; refine C.mono ?_; rintro e w' ⟨rfl, hw'⟩; subst hw')
                go_ret2
                exact ⟨by rw [← HR.out]; rfl, rfl⟩
              · rcases (show 16 * (n : Int) + d < 220 ∨ 223 < 16 * (n : Int) + d by simp [Utf.bad] at hb; omega) with e1 | e1
                · clear hb hk0
                  go_wp2_with (go_at_call 189; refine C.mono ?_; rintro e w' ⟨rfl, hw'⟩; subst hw')
                  go_ret2
                  exact ⟨by rw [← HR.out]; rfl, rfl⟩
                · have e2 : (220 : Int) ≤ 16 * (n : Int) + d := by omega
                  have e3 : decide (16 * (n : Int) + d ≤ 223) = false := by simp; omega
                  clear hb hk0
                  go_wp2_with (go_at_call 189; refine C.mono ?_; rintro e w' ⟨rfl, hw'⟩; subst hw')
                  go_ret2
                  exact ⟨by rw [← HR.out]; rfl, rfl⟩
            · exfalso
              simp [Utf.bad, show k ≠ 0 by omega, show k ≠ 1 by omega] at hb
          · rw [if_neg hb] at hst
            have HR := Lib.hid (show Utf.hxF second (4 - (k + 1)) (k + 1) (16 * n + d) ((bl s).drop (k + 1)) = R by rw [show 4 - (k + 1) = 3 - k by omega]; exact hst)
            clear hst HS
            have hk4 : k = 0 ∨ k = 1 ∨ (2 ≤ k) := by omega
            rcases hk4 with hk0 | hk0 | hk0
            · have hn0 : n = 0 := by subst hk0; simp at hn; exact hn
              have d0 : ((k : Int) == 0) = true := by simp; omega
              have d1 : ((k : Int) == 1) = false := by simp; omega
              rw [hk0, hn0] at hb
              have HN0 := Lib.hid hn0
              cases second
              · clear hb hk0 hn0
                go_wp2_with (go_at_call 189; refine C.mono ?_; rintro e w' ⟨rfl, hw'⟩; subst hw')
                go_round
                case rel => exact ⟨k + 1, 16 * n + d, by omega, by go_num, by simp, HN3.out, HR⟩
                case measure => simp [intOf]; omega
              · have e2 : ((16 * (n : Int) + d) != 13) = false := by simp [Utf.bad] at hb; simp; omega
                clear hb hk0 hn0
                go_wp2_with (go_at_call 189; refine C.mono ?_; rintro e w' ⟨rfl, hw'⟩; subst hw')
                go_round
                case rel => exact ⟨k + 1, 16 * n + d, by omega, by go_num, by simp, HN3.out, HR⟩
                case measure => simp [intOf]; omega
            · have d0 : ((k : Int) == 0) = false := by simp; omega
              have d1 : ((k : Int) == 1) = true := by simp; omega
              rw [hk0] at hb
              cases second
              · rcases (show 16 * (n : Int) + d < 220 ∨ 223 < 16 * (n : Int) + d by simp [Utf.bad] at hb; omega) with e1 | e1
                · clear hb hk0
                  go_wp2_with (go_at_call 189; refine C.mono ?_; rintro e w' ⟨rfl, hw'⟩; subst hw')
                  go_round
                  case rel => exact ⟨k + 1, 16 * n + d, by omega, by go_num, by simp, HN3.out, HR⟩
                  case measure => simp [intOf]; omega
                · have e2 : (220 : Int) ≤ 16 * (n : Int) + d := by omega
                  clear hb hk0
                  go_wp2_with (go_at_call 189; refine C.mono ?_; rintro e w' ⟨rfl, hw'⟩; subst hw')
                  go_round
                  case rel => exact ⟨k + 1, 16 * n + d, by omega, by go_num, by simp, HN3.out, HR⟩
                  case measure => simp [intOf]; omega
              · have e1 : (220 : Int) ≤ 16 * (n : Int) + d := by simp [Utf.bad] at hb; omega
                have e2 : 16 * (n : Int) + d ≤ 223 := by simp [Utf.bad] at hb; omega
                clear hb hk0
                go_wp2_with (go_at_call 189; refine C.mono ?_; rintro e w' ⟨rfl, hw'⟩; subst hw')
                go_round
                case rel => exact ⟨k + 1, 16 * n + d, by omega, by go_num, by simp, HN3.out, HR⟩
                case measure => simp [intOf]; omega
            · have d0 : ((k : Int) == 0) = false := by simp; omega
              have d1 : ((k : Int) == 1) = false := by simp; omega
              clear hb hk0
              go_wp2_with (go_at_call 189; refine C.mono ?_; rintro e w' ⟨rfl, hw'⟩; subst hw')
              go_round
              case rel => exact ⟨k + 1, 16 * n + d, by omega, by go_num, by simp, HN3.out, HR⟩
              case measure => simp [intOf]; omega
      · rw [if_neg hks] at hst
        have hks' : (s.size : Int) ≤ k := by omega
        have HR := Lib.hid hst
        clear hst
        go_wp2
        go_ret2
        exact ⟨by rw [← HR.out]; rfl, rfl⟩
    · have hlt' : ¬ ((k : Int) < 4) := by omega
      have h4 := HS.out
      rw [show 4 - k = 0 by omega, Utf.hxF] at h4
      have HR := Lib.hid h4
      clear h4
      go_wp2
      go_ret2
      exact ⟨by rw [← HR.out]; rfl, rfl⟩
end Go.Proofs.YtjmphlboickhdaaGreatDoor
