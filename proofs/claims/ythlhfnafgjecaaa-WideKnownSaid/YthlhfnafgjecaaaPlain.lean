/- Numbers of 192 bits as three words, and as six digits to the base 2^32: plain arithmetic. No program is spoken of here. -/
import Derived.Lib.BitFns
import Derived.Laws.BitsAllLaws
namespace Go.Proofs.Ythlhfnafgjecaaa.Wd
open Go
set_option linter.unusedVariables false

/-- The three words of a number, over 2^192. -/
def lo (z : Int) : Int := z % 18446744073709551616
def mi (z : Int) : Int := z / 18446744073709551616 % 18446744073709551616
def hi (z : Int) : Int := z / 340282366920938463463374607431768211456 % 18446744073709551616
/-- From - 2^191 to 2^191 - 1. -/
def Sg (z : Int) : Prop := -3138550867693340381917894711603833208051177722232017256448 ≤ z ∧ z < 3138550867693340381917894711603833208051177722232017256448
/-- A word. -/
def Wo (x : Int) : Prop := 0 ≤ x ∧ x < 18446744073709551616
/-- A number that fits. -/
def F64 (x : Int) : Prop := -9223372036854775808 ≤ x ∧ x ≤ 9223372036854775807

theorem lo_wo (z : Int) : Wo (lo z) := by unfold lo Wo; omega
theorem mi_wo (z : Int) : Wo (mi z) := by unfold mi Wo; omega
theorem hi_wo (z : Int) : Wo (hi z) := by unfold hi Wo; omega

theorem add_lo (x y : Int) : (lo x + lo y) % 18446744073709551616 = lo (x + y) := by unfold lo; omega
theorem add_mi (x y : Int) : (mi x + mi y + (lo x + lo y) / 18446744073709551616) % 18446744073709551616 = mi (x + y) := by unfold lo mi; omega
theorem add_hi (x y : Int) : (hi x + hi y + (mi x + mi y + (lo x + lo y) / 18446744073709551616) / 18446744073709551616) % 18446744073709551616 = hi (x + y) := by
  unfold lo mi hi
  have e1 : x = x / 340282366920938463463374607431768211456 * 340282366920938463463374607431768211456 + x / 18446744073709551616 % 18446744073709551616 * 18446744073709551616 + x % 18446744073709551616 := by omega
  have e2 : y = y / 340282366920938463463374607431768211456 * 340282366920938463463374607431768211456 + y / 18446744073709551616 % 18446744073709551616 * 18446744073709551616 + y % 18446744073709551616 := by omega
  generalize x / 340282366920938463463374607431768211456 = a at *
  generalize hb : x / 18446744073709551616 % 18446744073709551616 = b at *
  generalize hc : x % 18446744073709551616 = c at *
  generalize y / 340282366920938463463374607431768211456 = d at *
  generalize he : y / 18446744073709551616 % 18446744073709551616 = e at *
  generalize hf : y % 18446744073709551616 = f at *
  have h1 : (x + y) / 340282366920938463463374607431768211456 = a + d + (b + e + (c + f) / 18446744073709551616) / 18446744073709551616 := by omega
  rw [h1]
  omega
theorem not_lo (x : Int) : 18446744073709551615 - lo x = lo (-1 - x) := by unfold lo; omega
theorem not_mi (x : Int) : 18446744073709551615 - mi x = mi (-1 - x) := by unfold mi; omega
theorem not_hi (x : Int) : 18446744073709551615 - hi x = hi (-1 - x) := by unfold hi; omega

/-- The number of three words. -/
def num (a b c : Int) : Int := if c < 9223372036854775808 then a + 18446744073709551616 * b + 340282366920938463463374607431768211456 * c else a + 18446744073709551616 * b + 340282366920938463463374607431768211456 * c - 6277101735386680763835789423207666416102355444464034512896
theorem num_sg (a b c : Int) (ha : Wo a) (hb : Wo b) (hc : Wo c) : Sg (num a b c) := by unfold Wo num Sg at *; split <;> omega
theorem num_lo (a b c : Int) (ha : Wo a) (hb : Wo b) (hc : Wo c) : lo (num a b c) = a := by unfold Wo num lo at *; split <;> omega
theorem num_mi (a b c : Int) (ha : Wo a) (hb : Wo b) (hc : Wo c) : mi (num a b c) = b := by unfold Wo num mi at *; split <;> omega
theorem num_hi (a b c : Int) (ha : Wo a) (hb : Wo b) (hc : Wo c) : hi (num a b c) = c := by unfold Wo num hi at *; split <;> omega
theorem inj (x y : Int) (hx : Sg x) (hy : Sg y) (h0 : lo x = lo y) (h1 : mi x = mi y) (h2 : hi x = hi y) : x = y := by
  unfold Sg lo mi hi at *
  omega
/-- Alike over 2^192. -/
theorem same (x y k : Int) (h : x = y + 6277101735386680763835789423207666416102355444464034512896 * k) : lo x = lo y ∧ mi x = mi y ∧ hi x = hi y := by
  unfold lo mi hi
  subst h
  refine ⟨by omega, by omega, by omega⟩
/-- The number between - 2^191 and 2^191 - 1 that is alike. -/
def bal (x : Int) : Int := (x + 3138550867693340381917894711603833208051177722232017256448) % 6277101735386680763835789423207666416102355444464034512896 - 3138550867693340381917894711603833208051177722232017256448
theorem bal_sg (x : Int) : Sg (bal x) := by unfold bal Sg; omega
theorem bal_same (x : Int) : lo (bal x) = lo x ∧ mi (bal x) = mi x ∧ hi (bal x) = hi x :=
  same _ _ (-((x + 3138550867693340381917894711603833208051177722232017256448) / 6277101735386680763835789423207666416102355444464034512896)) (by unfold bal; omega)
theorem bal_id (x : Int) (h : Sg x) : bal x = x := by unfold bal Sg at *; omega

/-- A digit. -/
def P : Nat → Int
  | 0 => 1
  | 1 => 4294967296
  | 2 => 18446744073709551616
  | 3 => 79228162514264337593543950336
  | 4 => 340282366920938463463374607431768211456
  | 5 => 1461501637330902918203684832716283019655932542976
  | _ => 6277101735386680763835789423207666416102355444464034512896
def dg (k : Nat) (z : Int) : Int := z / P k % 4294967296
theorem dg_lt (k : Nat) (z : Int) : 0 ≤ dg k z ∧ dg k z < 4294967296 := by unfold dg; omega
/-- What is carried over to digit k. -/
def cy (k : Nat) (x y : Int) : Int := (x % P k + y % P k) / P k
theorem cy_zero (x y : Int) : cy 0 x y = 0 := by simp only [cy, P]; omega
theorem cy_le (k : Nat) (x y : Int) : 0 ≤ cy k x y ∧ cy k x y ≤ 1 := by
  unfold cy
  unfold P
  split <;> omega
theorem cy_dg (k : Nat) (x y : Int) (hk : k < 6) : (dg k x + dg k y + cy k x y) % 4294967296 = dg k (x + y) := by
  rcases (show k = 0 ∨ k = 1 ∨ k = 2 ∨ k = 3 ∨ k = 4 ∨ k = 5 by omega) with rfl | rfl | rfl | rfl | rfl | rfl
  all_goals
    simp only [dg, cy, P]
    omega
theorem cy_succ (k : Nat) (x y : Int) (hk : k < 6) : (dg k x + dg k y + cy k x y) / 4294967296 = cy (k + 1) x y := by
  rcases (show k = 0 ∨ k = 1 ∨ k = 2 ∨ k = 3 ∨ k = 4 ∨ k = 5 by omega) with rfl | rfl | rfl | rfl | rfl | rfl
  all_goals
    simp only [dg, cy, P]
    omega
theorem dg_not (k : Nat) (x : Int) (hk : k < 6) : 4294967295 - dg k x = dg k (-1 - x) := by
  rcases (show k = 0 ∨ k = 1 ∨ k = 2 ∨ k = 3 ∨ k = 4 ∨ k = 5 by omega) with rfl | rfl | rfl | rfl | rfl | rfl
  all_goals
    simp only [dg, P]
    omega
/-- The digits of the words. -/
theorem dg_words (z : Int) : dg 0 z = lo z % 4294967296 ∧ dg 1 z = lo z / 4294967296 ∧ dg 2 z = mi z % 4294967296 ∧ dg 3 z = mi z / 4294967296 ∧ dg 4 z = hi z % 4294967296 ∧ dg 5 z = hi z / 4294967296 := by
  simp only [dg, P, lo, mi, hi]
  refine ⟨by omega, by omega, by omega, by omega, by omega, by omega⟩
theorem dg_same (x y : Int) (h : lo x = lo y ∧ mi x = mi y ∧ hi x = hi y) (k : Nat) (hk : k < 6) : dg k x = dg k y := by
  obtain ⟨a0, a1, a2, a3, a4, a5⟩ := dg_words x
  obtain ⟨b0, b1, b2, b3, b4, b5⟩ := dg_words y
  obtain ⟨h0, h1, h2⟩ := h
  rcases (show k = 0 ∨ k = 1 ∨ k = 2 ∨ k = 3 ∨ k = 4 ∨ k = 5 by omega) with rfl | rfl | rfl | rfl | rfl | rfl
  · rw [a0, b0, h0]
  · rw [a1, b1, h0]
  · rw [a2, b2, h1]
  · rw [a3, b3, h1]
  · rw [a4, b4, h2]
  · rw [a5, b5, h2]
/-- A number from digit k on. -/
def tp (k : Nat) (z : Int) : Int := z / P k
theorem tp_dg (k : Nat) (x : Int) (hk : k < 6) : tp k x = tp (k + 1) x * 4294967296 + dg k x := by
  rcases (show k = 0 ∨ k = 1 ∨ k = 2 ∨ k = 3 ∨ k = 4 ∨ k = 5 by omega) with rfl | rfl | rfl | rfl | rfl | rfl
  all_goals
    simp only [tp, dg, P]
    omega
theorem tp_mono (k : Nat) (x y : Int) (h : tp k x < tp k y) : x < y := by
  unfold tp at h
  unfold P at h
  split at h <;> omega
theorem tp_zero (x : Int) : tp 0 x = x := by simp only [tp, P]; omega
theorem tp_top (x : Int) (h : Sg x) : (4294967296 / 2 ≤ dg 5 x → tp 6 x = -1 ∧ x < 0) ∧ (dg 5 x < 4294967296 / 2 → tp 6 x = 0 ∧ 0 ≤ x) := by
  simp only [Sg, dg, tp, P] at *
  refine ⟨fun h => by omega, fun h => by omega⟩
/-- How two numbers stand. -/
def cmp (x y : Int) : Int := if x < y then -1 else if y < x then 1 else 0
theorem cmp_lt (x y : Int) (h : x < y) : cmp x y = -1 := by unfold cmp; rw [if_pos h]
theorem cmp_gt (x y : Int) (h : y < x) : cmp x y = 1 := by unfold cmp; rw [if_neg (by omega), if_pos h]
theorem cmp_eq (x : Int) : cmp x x = 0 := by unfold cmp; simp
/-- The highest word, with its sign. -/
def sh (z : Int) : Int := if hi z < 9223372036854775808 then hi z else hi z - 18446744073709551616
theorem sh_div (z : Int) (h : Sg z) : sh z = z / 340282366920938463463374607431768211456 := by unfold sh hi Sg at *; split <;> omega
/-- Three ways of standing, the first one that tells them apart. -/
theorem cmp_or (x y : Int) (hx : Sg x) (hy : Sg y) : cmp x y = if cmp (sh x) (sh y) ≠ 0 then cmp (sh x) (sh y) else if cmp (mi x) (mi y) ≠ 0 then cmp (mi x) (mi y) else cmp (lo x) (lo y) := by
  rw [sh_div x hx, sh_div y hy]
  unfold cmp mi lo
  repeat' split
  all_goals omega
/-- A checked number: it and 0 if it fits, else 0 and the error's number. -/
def ck (x : Int) : Int := if -9223372036854775808 ≤ x ∧ x ≤ 9223372036854775807 then x else 0
def ce (x : Int) : Int := if -9223372036854775808 ≤ x ∧ x ≤ 9223372036854775807 then 0 else 50
theorem ck_yes (x : Int) (h : F64 x) : ck x = x := by unfold ck; exact if_pos h
theorem ce_yes (x : Int) (h : F64 x) : ce x = 0 := by unfold ce; exact if_pos h
theorem ck_no (x : Int) (h : ¬ F64 x) : ck x = 0 := by unfold ck; exact if_neg h
theorem ce_no (x : Int) (h : ¬ F64 x) : ce x = 50 := by unfold ce; exact if_neg h
end Go.Proofs.Ythlhfnafgjecaaa.Wd
