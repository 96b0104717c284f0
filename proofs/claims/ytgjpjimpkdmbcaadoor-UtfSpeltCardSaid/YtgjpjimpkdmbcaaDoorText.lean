/- Runes by numbers, and texts of them, as the laws make them. -/
import Derived.Test.YtgjpjimpkdmbcaaDoorFrame
namespace Go.Proofs.YtgjpjimpkdmbcaaDoor
open Go.RowKit
set_option linter.unusedVariables false

theorem bring_eq (x n : Int) (hn : 0 < n) (hn' : n ≤ 2000000) : (x.tmod n < 0 → wrap64 (x.tmod n + n) = x % n) ∧ (0 ≤ x.tmod n → x.tmod n = x % n) := by
  unfold wrap64
  have h := Int.tmod_eq_emod (a := x) (b := n)
  have h2 := Int.emod_nonneg x (b := n) (by omega)
  have h3 := Int.emod_lt_of_pos x hn
  split at h <;> constructor <;> intro h5 <;> omega
theorem bring (x n : Int) (w : World) (h0 : -9223372036854775808 ≤ x) (h1 : x ≤ 9223372036854775807) (hn : 0 < n) (hn' : n ≤ 2000000) :
    Calls Tryd.prog 28 #[.int .i64 x, .int .i64 n] w fun e w' => e = .returned (.int .i64 (x % n)) ∧ w = w' := by
  have he := Lib.hid (bring_eq x n hn hn')
  go_enter Tryd.func28, Tryd.ntmps28
  go_wp2
  · go_ret
    exact ⟨congrArg Ending.returned (congrArg (Value.int IntKind.i64) (he.out.1 (by assumption))), rfl⟩
  · go_ret
    exact ⟨congrArg Ending.returned (congrArg (Value.int IntKind.i64) (he.out.2 (by assumption))), rfl⟩

/-- The rune of a number. -/
def oneN (x : Int) : Nat := if x % 1112064 < 55296 then (x % 1112064).toNat else (x % 1112064).toNat + 2048
theorem oneN_rune (x : Int) : Utf.isr (oneN x) := by
  unfold Utf.isr oneN; split <;> omega
theorem one (x : Int) (w : World) (h0 : -9223372036854775808 ≤ x) (h1 : x ≤ 9223372036854775807) (r : Nat) (hr : oneN x = r) :
    Calls Tryd.prog 29 #[.int .i64 x] w fun e w' => e = .returned (.int .i32 (r : Nat)) ∧ w = w' := by
  have C := bring x 1112064 w h0 h1 (by omega) (by omega)
  unfold oneN at hr
  have hm0 : 0 ≤ x % 1112064 := by omega
  have hm1 : x % 1112064 < 1112064 := by omega
  generalize x % 1112064 = m at *
  by_cases h : m < 55296
  · rw [if_pos h] at hr
    have HR := Lib.hid (show m = (r : Int) by omega)
    have h' : ¬ (55296 ≤ m) := by omega
    clear hr
    go_enter Tryd.func29, Tryd.ntmps29
    go_wp2_with fail
    ((with_reducible refine C.mono ?_); rintro x w' ⟨rfl, rfl⟩)
    go_wp2
    go_ret
    exact ⟨ret_int HR.out, rfl⟩
  · rw [if_neg h] at hr
    have HR := Lib.hid (show m + 2048 = (r : Int) by omega)
    have h' : 55296 ≤ m := by omega
    clear hr
    go_enter Tryd.func29, Tryd.ntmps29
    go_wp2_with fail
    ((with_reducible refine C.mono ?_); rintro x w' ⟨rfl, rfl⟩)
    go_wp2
    go_ret
    exact ⟨ret_int HR.out, rfl⟩
theorem no_over (s t : ByteArray) (h : s.size + t.size ≤ 1000000) : ¬ 9223372036854775807 < s.size + t.size := by omega
/-- The runes of numbers, 60 at most. -/
def runes (l : List Int) : List Nat := (l.take 60).map oneN
theorem runes_rune (l : List Int) : ∀ r ∈ runes l, Utf.isr r := by
  intro r hr
  obtain ⟨x, _, rfl⟩ := List.mem_map.1 hr
  exact oneN_rune x
theorem runes_length (l : List Int) : (runes l).length = min l.length 60 := by simp [runes]; omega
theorem runes_take (l : List Int) (k : Nat) (h : k < l.length) (h2 : k < 60) : (runes l).take (k + 1) = (runes l).take k ++ [oneN (l.getD k 0)] := by
  have hk : k < (runes l).length := by rw [runes_length]; omega
  rw [List.take_succ_eq_append_getElem hk]
  simp [runes, List.getD_eq_getElem?_getD, List.getElem?_eq_getElem h]
def textB (l : List Int) : List Nat := Utf.encs (runes l)
theorem textB_byte (l : List Int) : ∀ x ∈ textB l, x < 256 := Utf.encs_byte _ (runes_rune l)
theorem encs_len (rs : List Nat) : (Utf.encs rs).length ≤ 4 * rs.length := by
  induction rs with
  | nil => simp [Utf.encs]
  | cons r rs ih => rw [Utf.encs_cons, List.length_append, List.length_cons]; have := Utf.enc_len r; omega
theorem textB_len (l : List Int) : (textB l).length ≤ 240 := by
  have h1 := encs_len (runes l)
  have h2 := runes_length l
  unfold textB; omega
set_option maxHeartbeats 1000000 in
set_option maxRecDepth 100000 in
theorem text (v : Value) (l : List Int) (w : World) (h : RdI w w.heap.size v l) :
    Calls Tryd.prog 24 #[v] w fun e w' => e = .returned (.string (str (textB l))) ∧ w = w' := by
  obtain ⟨a, c, rfl, hlc, hc, hb, hcell⟩ := h
  unfold maxLen at hc
  have HC := Lib.hid hcell
  have HB := Lib.hid hb
  clear hcell hb
  go_enter Tryd.func24, Tryd.ntmps24
  go_wp2
  go_loop [3, 4] (fun v i => ∃ (k : Nat) (t : ByteArray), k ≤ l.length ∧ k ≤ 60 ∧ i = .int .i64 k ∧ v = .string t ∧ Hid (t = str (Utf.encs ((runes l).take k)))) (fun _ i => 60 - (intOf i).toNat)
  case atStart => exact ⟨0, ⟨#[]⟩, by omega, by omega, rfl, rfl, Lib.hid rfl⟩
  case round =>
    obtain ⟨k, t, hk, hk60, rfl, rfl, HT⟩ := hrel
    by_cases hlt : k < l.length ∧ k < 60
    · obtain ⟨h1, h2⟩ := hlt
      obtain ⟨b, off, rfl, hbl, hcl⟩ := HC.out (by omega)
      have hce := hcl k h1
      have hbd := HB.out (l.getD k 0) (by simp [List.getElem?_eq_getElem h1])
      have hrt := runes_take l k h1 h2
      have CO := one (l.getD k 0) w hbd.1 hbd.2 _ rfl
      have CP := put_yes (oneN (l.getD k 0)) w (oneN_rune _)
      generalize oneN (l.getD k 0) = r at *
      generalize l.getD k 0 = x at *
      have HRT := Lib.hid hrt
      have h2' : (k : Int) < 60 := by omega
      have h1' : (k : Int) < l.length := by omega
      have hts : t.size ≤ 240 := by
        rw [HT.out, str_size]
        have h3 := encs_len ((runes l).take k)
        have h4 : ((runes l).take k).length ≤ k := List.length_take_le _ _
        omega
      have hnc := no_over t (str (Utf.enc r)) (by rw [str_size]; have := Utf.enc_len r; omega)
      clear hcl hrt hbd hts
      go_wp2_with fail
      ((with_reducible refine CO.mono ?_); rintro x w' ⟨rfl, rfl⟩)
      go_wp2_with fail
      ((with_reducible refine CP.mono ?_); rintro x w' ⟨rfl, rfl⟩)
      go_wp2
      go_round
      case rel => exact ⟨k + 1, _, by omega, by omega, by go_num, rfl, Lib.hid (by rw [HT.out, HRT.out, Utf.encs_append, str_append]; simp [Utf.encs])⟩
      case measure => simp [intOf]; omega
    · have hE : (runes l).take k = runes l := List.take_of_length_le (by rw [runes_length]; omega)
      have HE := Lib.hid hE
      clear hE
      by_cases h1 : k < l.length
      · have h1' : (k : Int) < l.length := by omega
        have h2' : ¬ ((k : Int) < 60) := by omega
        go_wp2
        go_ret
        exact ⟨by rw [HT.out, HE.out]; rfl, rfl⟩
      · have h1' : ¬ ((k : Int) < l.length) := by omega
        go_wp2
        go_ret
        exact ⟨by rw [HT.out, HE.out]; rfl, rfl⟩
end Go.Proofs.YtgjpjimpkdmbcaaDoor
