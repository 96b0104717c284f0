/- Numbers of four digits behind \u, as the program reads them. -/
import Derived.Test.YtanjdjiigfdnmaaGreatDoorDig
namespace Go.Proofs.YtanjdjiigfdnmaaGreatDoor
open Go.RowKit
set_option linter.unusedVariables false

/-- \u and digits: the number, the error. -/
def tnP (second : Bool) (l : List Nat) : Nat × Nat := if Utf.pre l ≠ 0 then (0, Utf.pre l) else Utf.hx second (l.drop 2)
theorem u8_nat (a : UInt8) (n : Nat) (h : n < 256) : a.toNat = n ↔ a = UInt8.ofNat n := by
  constructor
  · intro e; rw [← e]; simp
  · intro e; rw [e]; simp; omega
theorem pre_yes (s : ByteArray) (h : Utf.pre (bl s) = 0) : Lib.hasPrefix s.data.toList (⟨#[92, 117]⟩ : ByteArray).data.toList = true ∧
    bl ⟨(Lib.trimPrefix s.data.toList (⟨#[92, 117]⟩ : ByteArray).data.toList).toArray⟩ = (bl s).drop 2 := by
  have hl : bl s = s.data.toList.map UInt8.toNat := rfl
  rw [hl] at h ⊢
  generalize s.data.toList = L at *
  match L, h with
  | [], h => simp [Utf.pre] at h
  | [a], h =>
    simp [Utf.pre] at h
    split at h <;> omega
  | a :: b :: t, h =>
    simp only [Utf.pre, List.map_cons, List.length_cons, List.getD_cons_zero, List.getD_cons_succ] at h
    rw [if_neg (by omega)] at h
    have h1 : a.toNat = 92 := Classical.byContradiction fun e => by rw [if_pos e] at h; omega
    rw [if_neg (by omega), if_neg (by omega)] at h
    have h2 : b.toNat = 117 := Classical.byContradiction fun e => by rw [if_pos e] at h; omega
    have e1 := (u8_nat a 92 (by omega)).1 h1
    have e2 := (u8_nat b 117 (by omega)).1 h2
    subst e1; subst e2
    have hp : Lib.hasPrefix (UInt8.ofNat 92 :: UInt8.ofNat 117 :: t) (⟨#[92, 117]⟩ : ByteArray).data.toList = true := by simp [Lib.hasPrefix]
    refine ⟨hp, ?_⟩
    unfold Lib.trimPrefix
    rw [if_pos hp]
    simp [bl]
theorem pre_no (s : ByteArray) (h : Utf.pre (bl s) ≠ 0) : Lib.hasPrefix s.data.toList (⟨#[92, 117]⟩ : ByteArray).data.toList = false ∧
    (Utf.pre (bl s) = 3 ∧ Lib.hasPrefix (⟨#[92, 117]⟩ : ByteArray).data.toList s.data.toList = true ∨ Utf.pre (bl s) = 41 ∧ Lib.hasPrefix (⟨#[92, 117]⟩ : ByteArray).data.toList s.data.toList = false) := by
  have hl : bl s = s.data.toList.map UInt8.toNat := rfl
  rw [hl] at h ⊢
  generalize s.data.toList = L at *
  match L, h with
  | [], h => simp [Utf.pre, Lib.hasPrefix]
  | [a], h =>
    by_cases h1 : a.toNat = 92
    · have e1 := (u8_nat a 92 (by omega)).1 h1
      subst e1
      simp [Utf.pre, Lib.hasPrefix]
    · have e1 : a ≠ 92 := fun e => h1 (by rw [e]; rfl)
      simp [Utf.pre, Lib.hasPrefix, List.isPrefixOf, h1, e1]
  | a :: b :: t, h =>
    by_cases h1 : a.toNat = 92
    · by_cases h2 : b.toNat = 117
      · simp [Utf.pre, h1, h2] at h
      · have e1 := (u8_nat a 92 (by omega)).1 h1
        have e2 : b ≠ 117 := fun e => h2 (by rw [e]; rfl)
        subst e1
        simp [Utf.pre, Lib.hasPrefix, List.isPrefixOf, h2, e2, Ne.symm e2]
    · have e1 : a ≠ 92 := fun e => h1 (by rw [e]; rfl)
      simp [Utf.pre, Lib.hasPrefix, List.isPrefixOf, h1, e1, Ne.symm e1]

/-- What the first digits have settled. -/
def J (second : Bool) (k n : Nat) : Prop := (k = 2 → (second = true ↔ (220 ≤ n ∧ n ≤ 223))) ∧ (k = 3 → (second = true ↔ (220 ≤ n / 16 ∧ n / 16 ≤ 223)))
theorem J_step (second : Bool) (k n d : Nat) (hk : k ≤ 3) (hd : d < 16) (h : J second k n) (hb : Utf.bad second k (16 * n + d) = false) : J second (k + 1) (16 * n + d) := by
  refine ⟨fun e => ?_, fun e => ?_⟩
  · obtain rfl : k = 1 := by omega
    cases second <;> simp [Utf.bad] at hb ⊢ <;> omega
  · obtain rfl : k = 2 := by omega
    have := h.1 rfl
    rw [this]; omega
theorem can_bad (second : Bool) (k n d c L : Nat) (hk : k ≤ 3) (hc : c = 16 ^ (3 - k)) (hd : d < 16) (hn : n < 16 ^ k) (hL : L = n * (16 * c)) (h : J second k n) :
    can second ((L : Int) + d * (c : Int)) ((L : Int) + d * (c : Int) + c - 1) = !Utf.bad second k (16 * n + d) := by
  rcases (show k = 0 ∨ k = 1 ∨ k = 2 ∨ k = 3 by omega) with rfl | rfl | rfl | rfl
  · obtain rfl : n = 0 := by simp at hn; exact hn
    subst hc hL
    cases second
    · simp [can, Utf.bad]; omega
    · rw [Bool.eq_iff_iff]; simp [can, Utf.bad]; omega
  · subst hc hL
    simp only [Nat.reduceSub, Nat.reducePow] at *
    cases second
    · rw [Bool.eq_iff_iff]; simp [can, Utf.bad]; omega
    · rw [Bool.eq_iff_iff]; simp [can, Utf.bad]; omega
  · subst hc hL
    have h2 := h.1 rfl
    simp only [Nat.reduceSub, Nat.reducePow] at *
    cases second
    · simp at h2; rw [Bool.eq_iff_iff]; simp [can, Utf.bad]; omega
    · simp at h2; rw [Bool.eq_iff_iff]; simp [can, Utf.bad]; omega
  · subst hc hL
    have h2 := h.2 rfl
    simp only [Nat.reduceSub, Nat.reducePow] at *
    cases second
    · simp at h2; rw [Bool.eq_iff_iff]; simp [can, Utf.bad]; omega
    · simp at h2; rw [Bool.eq_iff_iff]; simp [can, Utf.bad]; omega
theorem cutPrefix (s p : ByteArray) (w : World) :
    Calls Tryz.prog 210 #[.string s, .string p] w fun e w' => e = .returned (.tuple #[.string ⟨(Lib.trimPrefix s.data.toList p.data.toList).toArray⟩, .bool (Lib.hasPrefix s.data.toList p.data.toList)]) ∧ w = w' :=
  (Tryz.strings_CutPrefix s p w).mono fun _ _ ⟨a, b⟩ => ⟨a, b.symm⟩
theorem hasPrefix (s p : ByteArray) (w : World) :
    Calls Tryz.prog 167 #[.string s, .string p] w fun e w' => e = .returned (.bool (Lib.hasPrefix s.data.toList p.data.toList)) ∧ w = w' :=
  (Tryz.strings_HasPrefix s p w).mono fun _ _ ⟨a, b⟩ => ⟨a, b.symm⟩
def tup32 (p : Nat × Nat) : Ending := .returned (.tuple #[.int .i32 (p.1 : Nat), .int .i64 (p.2 : Nat)])
theorem tnP_no (second : Bool) (l : List Nat) (h : Utf.pre l ≠ 0) : tnP second l = (0, Utf.pre l) := by unfold tnP; rw [if_pos h]
end Go.Proofs.YtanjdjiigfdnmaaGreatDoor
