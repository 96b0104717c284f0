/- Literals in which runes are spelt in many ways, as the laws make them. -/
import Derived.Test.YtpmfalcmlkcafaaDoorTidy
import Derived.Test.YtpmfalcmlkcafaaDoorText
import Derived.Deep.RegionHeld3
import Derived.BigRegion
namespace Go.Proofs.YtpmfalcmlkcafaaDoor
open Go.RowKit
set_option linter.unusedVariables false

/-- Sixteen digits. -/
def Digits (D : ByteArray) (dg : Nat → Nat) : Prop := D.size = 16 ∧ (∀ d, d < 16 → D.extract d (d + 1) = str [dg d]) ∧ Utf.Digs dg
theorem digits_small : Digits ⟨#[48, 49, 50, 51, 52, 53, 54, 55, 56, 57, 97, 98, 99, 100, 101, 102]⟩ Utf.hex := ⟨rfl, by decide +kernel, Utf.digs_small⟩
theorem digits_big : Digits ⟨#[48, 49, 50, 51, 52, 53, 54, 55, 56, 57, 65, 66, 67, 68, 69, 70]⟩ Utf.hexC := ⟨rfl, by decide +kernel, Utf.digs_big⟩
theorem dig_slice {D : ByteArray} {dg : Nat → Nat} (hD : Digits D dg) (d : Nat) (x y : Int) (hx : x = d) (hy : y = (d : Int) + 1) (h : d < 16) (w : World) :
    (Instr.slice 9 (.string D) (some (.int .i64 x)) (some (.int .i64 y)) none).run Tryd.prog w = .ok (.string (str [dg d])) w := by
  subst hx hy
  have h1 := hD.1
  rw [run_slice_string_if w 9 D .i64 .i64 _ _ Tryd.underlying9, if_pos (by omega), if_pos (by omega), ← hD.2.1 d h]
  congr 3

/-! ### the ways -/
namespace Utf
def CS : List Nat := [34, 92, 47, 8, 12, 10, 13, 9]
def DS : List Nat := [34, 92, 47, 98, 102, 110, 114, 116]
/-- The short spelling that the first c letters tell. -/
def sh (r : Nat) : Nat → List Nat
  | 0 => []
  | c + 1 => if r = CS.getD c 0 then [92, DS.getD c 0] else sh r c
def dgs (k : Nat) : Nat → Nat := if k % 2 = 0 then hex else hexC
theorem digs_dgs (k : Nat) : Digs (dgs k) := by
  unfold dgs; split
  · exact digs_small
  · exact digs_big
def way (k r : Nat) : List Nat :=
  if k = 3 ∧ sh r 8 ≠ [] then sh r 8
  else if 2 ≤ k ∧ 32 ≤ r ∧ r ≠ 34 ∧ r ≠ 92 then enc r
  else if r < 65536 then four (dgs k) r
  else four (dgs k) (55296 + (r - 65536) / 1024) ++ four (dgs k) (56320 + (r - 65536) % 1024)
theorem sh_len (r : Nat) : ∀ c, (sh r c).length ≤ 2
  | 0 => by simp [sh]
  | c + 1 => by
    unfold sh; split
    · simp
    · exact sh_len r c
theorem spell_sh (r : Nat) : ∀ c, c ≤ 8 → sh r c ≠ [] → Spell r (sh r c)
  | 0, _, h => absurd rfl h
  | c + 1, hc, h => by
    unfold sh at h ⊢
    by_cases e : r = CS.getD c 0
    · rw [if_pos e]
      subst e
      rcases (show c = 0 ∨ c = 1 ∨ c = 2 ∨ c = 3 ∨ c = 4 ∨ c = 5 ∨ c = 6 ∨ c = 7 by omega) with rfl | rfl | rfl | rfl | rfl | rfl | rfl | rfl
      all_goals exact spell_short _ _ (by decide) rfl (by decide) (by decide)
    · rw [if_neg e] at h ⊢
      exact spell_sh r c (by omega) h
theorem spell_way (k r : Nat) (h : isr r) : Spell r (way k r) := by
  unfold way
  by_cases h1 : k = 3 ∧ sh r 8 ≠ []
  · rw [if_pos h1]; exact spell_sh r 8 (by omega) h1.2
  · rw [if_neg h1]
    by_cases h2 : 2 ≤ k ∧ 32 ≤ r ∧ r ≠ 34 ∧ r ≠ 92
    · rw [if_pos h2]; exact spell_self r h h2.2.1 h2.2.2.1 h2.2.2.2
    · rw [if_neg h2]
      by_cases h3 : r < 65536
      · rw [if_pos h3]; exact spell_four _ (digs_dgs k) r h h3
      · rw [if_neg h3]; exact spell_eight _ (digs_dgs k) r h (by omega)
theorem way_len (k r : Nat) : (way k r).length ≤ 12 := by
  unfold way
  have h1 := sh_len r 8
  have h2 := enc_len r
  repeat' split
  · omega
  · omega
  · simp [four]
  · simp [four]
end Utf
/-- The way of the i-th rune. -/
def kk (how : List Int) (i : Nat) : Nat := if how = [] then 0 else (how.getD (i % how.length) 0 % 4).toNat
theorem kk_lt (how : List Int) (i : Nat) : kk how i < 4 := by unfold kk; split <;> omega
/-- The first n runes and their spellings. -/
def ps (l how : List Int) (n : Nat) : List (Nat × List Nat) := (List.range n).map fun i => (oneN (l.getD i 0), Utf.way (kk how i) (oneN (l.getD i 0)))
theorem ps_succ (l how : List Int) (n : Nat) : (ps l how (n + 1)).flatMap Prod.snd = (ps l how n).flatMap Prod.snd ++ Utf.way (kk how n) (oneN (l.getD n 0)) := by
  simp [ps, List.range_succ]
theorem ps_len (l how : List Int) : ∀ n, ((ps l how n).flatMap Prod.snd).length ≤ 12 * n
  | 0 => by simp [ps]
  | n + 1 => by
    rw [ps_succ, List.length_append]
    have h1 := ps_len l how n
    have h2 := Utf.way_len (kk how n) (oneN (l.getD n 0))
    omega
theorem ps_spell (l how : List Int) (n : Nat) : ∀ p ∈ ps l how n, Utf.Spell p.1 p.2 := by
  intro p hp
  obtain ⟨i, _, rfl⟩ := List.mem_map.1 hp
  exact Utf.spell_way _ _ (oneN_rune _)
theorem ps_fst (l how : List Int) : (ps l how (min l.length 60)).map Prod.fst = runes l := by
  apply List.ext_getElem
  · simp [ps, runes_length]
  · intro i h1 h2
    have h3 : i < l.length := by have := runes_length l; omega
    simp [ps, runes, List.getD_eq_getElem?_getD, List.getElem?_eq_getElem h3]
/-- The literal. -/
def lit (l how : List Int) : List Nat := 34 :: ((ps l how (min l.length 60)).flatMap Prod.snd ++ [34])
theorem lit_unq (l how : List Int) : Utf.unq (lit l how) = (textB l, (lit l how).length, 0) := by
  have := Utf.unq_spelt (ps l how (min l.length 60)) [] (by simp) (ps_spell _ _ _)
  unfold lit
  rw [this, ps_fst]
  simp [textB]
theorem lit_cut (l how : List Int) (k : Nat) (h : k < (lit l how).length) : Utf.unq ((lit l how).take k) = ([], 0, 3) :=
  Utf.unq_cut _ k (ps_spell _ _ _) (by simpa [lit] using h)
theorem lit_len (l how : List Int) : (lit l how).length ≤ 722 := by
  have := ps_len l how (min l.length 60)
  simp only [lit, List.length_cons, List.length_append, List.length_nil]; omega
theorem lit_byte (l how : List Int) : ∀ x ∈ lit l how, x < 256 := by
  intro x hx
  rcases List.mem_cons.1 hx with rfl | hx
  · omega
  · rcases List.mem_append.1 hx with hx | hx
    · obtain ⟨p, hp, hx⟩ := List.mem_flatMap.1 hx
      exact (ps_spell _ _ _ p hp).byte x hx
    · simp at hx; omega
end Go.Proofs.YtpmfalcmlkcafaaDoor
