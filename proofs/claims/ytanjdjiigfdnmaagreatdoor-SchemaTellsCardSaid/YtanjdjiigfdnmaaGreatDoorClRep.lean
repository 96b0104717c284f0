/- The program's kinds: bits of texts and bytes: the library's ReplaceAll; what the walks lean on of memory. -/
import Derived.Test.YtanjdjiigfdnmaaGreatDoorClRet
import Derived.Test.YtanjdjiigfdnmaaGreatDoorShelfT
import Derived.Lib.Replace
import Derived.Lib.SplitLaws
namespace Go.Proofs.YtanjdjiigfdnmaaGreatDoor
open Go.RowKit
set_option linter.unusedVariables false
set_option maxRecDepth 100000

theorem repl (new : List UInt8) (c : UInt8) : ∀ l : List UInt8, Lib.replaceK [c] new (Lib.count l [c]) l = l.flatMap fun b => if b = c then new else [b]
  | [] => by rw [Lib.count_one]; rfl
  | b :: l => by
    have ih := repl new c l
    by_cases h : b = c
    · subst h
      rw [Lib.count_cons_eq, Nat.add_comm, Lib.replaceK_hit [b] new _ _ 0 (by rw [Lib.index_one]; simp [Lib.indexByte])]
      simp [ih]
    · rw [Lib.count_cons_ne b c l h]
      cases hk : Lib.count l [c] with
      | zero =>
        rw [hk] at ih
        simp only [Lib.replaceK] at ih ⊢
        simp [h, ← ih]
      | succ k =>
        rw [hk] at ih
        obtain ⟨i, hi⟩ := Lib.index_of_count (s := l) (old := [c]) (by omega)
        rw [Lib.replaceK_hit [c] new k l i hi] at ih
        rw [Lib.replaceK_hit [c] new k (b :: l) (i + 1) (by
          rw [Lib.index_one] at hi ⊢
          unfold Lib.indexByte
          rw [if_neg (by simpa using h), hi]
          rw [if_neg (by simp)]; omega)]
        simp [h, ← ih]
theorem repl_bl (s : ByteArray) : (⟨(Lib.replaceAll s.data.toList [0] [0, 255]).toArray⟩ : ByteArray) = str (Cl.esc0 (bl s)) := by
  apply bl_inj
  rw [bl_str _ (Cl.esc0_byte (bl_byte s)), bl_arr]
  unfold Lib.replaceAll Lib.replace
  rw [if_neg (show ¬ (([0] : List UInt8) == [0, 255]) = true by decide)]
  unfold Lib.replaceNum
  rw [if_pos (.inl (by decide)), repl]
  unfold bl Cl.esc0
  generalize s.data.toList = l
  induction l with
  | nil => rfl
  | cons b l ih =>
    simp only [List.flatMap_cons, List.map_append, List.map_cons, ih]
    congr 1
    by_cases h : b = 0
    · subst h; rfl
    · have : ¬ b.toNat = 0 := fun e => h (UInt8.toNat_inj.1 e)
      rw [if_neg h, if_neg this]; rfl
theorem repl_count (s : ByteArray) : Lib.countB s ⟨#[0]⟩ ≤ s.size := Lib.countB_le ⟨#[0]⟩ (by decide) s.size s (Nat.le_refl _)
/-- The library's variable MaxLen holds a number. -/
def TabM (w : World) : Prop := ∃ m, w.cell? ⟨0, 0, none⟩ = some (.int .i64 m)
theorem TabM.later {w w' : World} (h : TabM w) (hb : Below w.heap.size w w') : TabM w' := by
  obtain ⟨m, h⟩ := h
  exact ⟨m, (hb.cell (p := ⟨0, 0, none⟩) (cell_lt h)).trans h⟩
/-- All that the walks lean on. -/
structure TA (w : World) : Prop where
  tab : Tab w
  err : TabE w
  pow : TabP w
  mx : TabM w
theorem TA.later {w w' : World} (h : TA w) (hb : Below w.heap.size w w') : TA w' := ⟨h.tab.later hb, h.err.later hb, h.pow.later hb, h.mx.later hb⟩
theorem cRunBits (c : Cl.C) (w : World) (T : TabM w) (hm : c.s.size ≤ 1000000) (t : ByteArray) (ht : str (Cl.esc0 (bl c.s) ++ [0, 0]) = t) : Calls Tryz.prog 122 #[cv c] w fun e w' => e = .returned (.string t) ∧ Below w.heap.size w w' := by
  obtain ⟨u, n, s⟩ := c
  unfold cv
  simp only at hm ht ⊢
  have hl := (Cl.esc0_len (bl s)).2
  rw [bl_length] at hl
  have hcount := repl_count s
  have hC : ∀ w1 : World, Below w.heap.size w w1 → Calls Tryz.prog 80 #[.string s, .string ⟨#[0]⟩, .string ⟨#[0, 255]⟩] w1 fun e w' => e = .returned (.string (str (Cl.esc0 (bl s)))) ∧ Below w1.heap.size w1 w' := fun w1 hb => by
    obtain ⟨m, hm2⟩ := T.later hb
    rw [← repl_bl]
    exact Tryz.strings_ReplaceAll s ⟨#[0]⟩ ⟨#[0, 255]⟩ m w1 (by omega) hm2 (by decide) (by show s.size + _ * 2 ≤ _; omega)
  have HC := Lib.hid hC
  have e : t = str (Cl.esc0 (bl s)) ++ ⟨#[0]⟩ ++ ⟨#[0]⟩ := by
    rw [← ht, show [0, 0] = [0] ++ [0] from rfl, ← List.append_assoc, str_append, str_append]; rfl
  have hz : (str (Cl.esc0 (bl s))).size ≤ 2000000 := by rw [str_size]; omega
  generalize str (Cl.esc0 (bl s)) = x at *
  have z1 : x.size + (⟨#[0]⟩ : ByteArray).size ≤ 9223372036854775807 := by show _ + 1 ≤ _; omega
  have z2 : (x ++ (⟨#[0]⟩ : ByteArray)).size + (⟨#[0]⟩ : ByteArray).size ≤ 9223372036854775807 := by rw [ByteArray.size_append]; show _ + 1 + 1 ≤ _; omega
  have n1 : ¬ 9223372036854775807 < x.size + (⟨#[0]⟩ : ByteArray).size := by omega
  have n2 : ¬ 9223372036854775807 < (x ++ (⟨#[0]⟩ : ByteArray)).size + (⟨#[0]⟩ : ByteArray).size := by omega
  have HE := Lib.hid e
  clear hC hcount hl ht T hm hz e
  go_enter Tryz.func122, Tryz.ntmps122
  go_wp2_with fail
  ((with_reducible refine (HC.out _ (box_new _ _)).mono ?_); rintro e w1 ⟨rfl, b1⟩)
  have B1 := Lib.hid ((box_new w _).trans (b1.mono (by simp)))
  clear b1
  go_wp2_with fail
  go_ret
  exact ⟨by rw [HE.out]; rfl, B1.out⟩
end Go.Proofs.YtanjdjiigfdnmaaGreatDoor
