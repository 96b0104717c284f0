/- Runes by numbers, and texts of them, as the laws make them. -/
import Derived.Test.YtpmfalcmlkcafaaDoorFrame
namespace Go.Proofs.YtpmfalcmlkcafaaDoor
open Go.RowKit
set_option linter.unusedVariables false

theorem bring_eq (x n : Int) (hn : 0 < n) (hn' : n ≤ 2000000) : (x.tmod n < 0 → wrap64 (x.tmod n + n) = x % n) ∧ (0 ≤ x.tmod n → x.tmod n = x % n) := by
  unfold wrap64
  have h := Int.tmod_eq_emod (a := x) (b := n)
  have h2 := Int.emod_nonneg x (b := n) (by omega)
  have h3 := Int.emod_lt_of_pos x hn
  split at h <;> constructor <;> intro h5 <;> omega

/-- The rune of a number. -/
def oneN (x : Int) : Nat := if x % 1112064 < 55296 then (x % 1112064).toNat else (x % 1112064).toNat + 2048
theorem oneN_rune (x : Int) : Utf.isr (oneN x) := by
  unfold Utf.isr oneN; split <;> omega
theorem no_over (s t : ByteArray) (h : s.size + t.size ≤ 1000000) : ¬ 9223372036854775807 < s.size + t.size := by omega
/-- The runes of numbers, 60 at most. -/
def runes (l : List Int) : List Nat := (l.take 60).map oneN
theorem runes_rune (l : List Int) : ∀ r ∈ runes l, Utf.isr r := by
  intro r hr
  obtain ⟨x, _, rfl⟩ := List.mem_map.1 hr
  exact oneN_rune x
theorem runes_length (l : List Int) : (runes l).length = min l.length 60 := by simp [runes]; omega
theorem runes_take (l : List Int) (k : Nat) (h : k < l.length) (h2 : k < 60) : (runes l).take (k + 1) = (runes l).take k ++ [oneN (l.getD k 0)] := by
  have hk : k < (runes l).length := by rw [runes_length]; omega
  rw [List.take_succ_eq_append_getElem hk]
  simp [runes, List.getD_eq_getElem?_getD, List.getElem?_eq_getElem h]
def textB (l : List Int) : List Nat := Utf.encs (runes l)
theorem textB_byte (l : List Int) : ∀ x ∈ textB l, x < 256 := Utf.encs_byte _ (runes_rune l)
theorem encs_len (rs : List Nat) : (Utf.encs rs).length ≤ 4 * rs.length := by
  induction rs with
  | nil => simp [Utf.encs]
  | cons r rs ih => rw [Utf.encs_cons, List.length_append, List.length_cons]; have := Utf.enc_len r; omega
theorem textB_len (l : List Int) : (textB l).length ≤ 240 := by
  have h1 := encs_len (runes l)
  have h2 := runes_length l
  unfold textB; omega
end Go.Proofs.YtpmfalcmlkcafaaDoor
