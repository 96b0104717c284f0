/- The law's cut; variables of cells that are read and written in one statement. -/
import Derived.Test.YtffdgcdmbccodaaGreatDoorClWork
namespace Go.Proofs.YtffdgcdmbccodaaGreatDoor
open Go.RowKit
set_option linter.unusedVariables false
set_option maxRecDepth 100000

/-- A cell whose bytes are cut. -/
def cutC (c : Cl.C) : Cl.C := ⟨c.u, c.n, c.s.extract 0 (min (c.s.size : Int) 1100).toNat⟩
theorem cutC_size (c : Cl.C) : (cutC c).s.size ≤ 1100 := by unfold cutC; simp only [ByteArray.size_extract]; omega
theorem cutC_i64 (c : Cl.C) (h : Cl.I64 c.n) : Cl.I64 (cutC c).n := h
set_option maxHeartbeats 4000000 in
theorem lCut (c d : Cl.C) (w : World) (hm : c.s.size ≤ maxLen) (hd : cutC c = d) : Calls Tryz.prog 27 #[cv c] w fun e w' => e = .returned (cv d) ∧ Below w.heap.size w w' := by
  obtain ⟨u, n, s⟩ := c
  subst hd
  unfold cutC cv
  simp only at hm ⊢
  unfold maxLen at hm
  obtain ⟨s2, hs2⟩ : ∃ s2, s.extract 0 (min (s.size : Int) 1100).toNat = s2 := ⟨_, rfl⟩
  have hsl : ∀ w, (Instr.slice 9 (.string s) none (some (.int .i64 (min (s.size : Int) 1100))) none).run Tryz.prog w = .ok (.string s2) w := fun w => by
    rw [run_slice_string_to_if w 9 s .i64 _ Tryz.underlying9, if_pos (by omega), hs2]
  rw [hs2]
  have H2 := Lib.hid hs2
  clear hs2
  go_enter Tryz.func27, Tryz.ntmps27
  go_wp2_with fail
  have hR := heap_alloc_new (w.alloc (.cells #[.bool u, .int .i64 n, .string s2] 48)) (.cells #[.bool u, .int .i64 n, .string s2] 48)
  rw [show (w.alloc (.cells #[.bool u, .int .i64 n, .string s2] 48)).heap.size = w.heap.size + 1 by simp] at hR
  exact bodyPost_ret (ret1 rfl _ _ (w.heap.size + 1) ⟨u, n, s2⟩ rfl hR) rfl ⟨rfl, (box_new w _).alloc (by simp) _⟩
/-- A variable of a cell, whatever it holds. -/
def VX (W : World) (k : Nat) (w : World) : Prop := W.heap.size ≤ k ∧ ∃ cs : Array Value, w.heap[k]? = some (.cells cs 48 (0, 0)) ∧ cs.size = 3
theorem VX.later {W w w' : World} {k : Nat} (h : VX W k w) (hb : Below w.heap.size w w') : VX W k w' := by
  obtain ⟨h1, cs, h2, h3⟩ := h
  exact ⟨h1, cs, row_later hb h2, h3⟩
theorem VX.set {W w : World} {k : Nat} (h : VX W k w) (j i : Nat) (v : Value) : VX W k (w.setCell ⟨j, i, none⟩ v) := by
  obtain ⟨h1, cs, h2, h3⟩ := h
  by_cases e : k = j
  · subst e
    exact ⟨h1, cs.setIfInBounds i v, heap_setCell_same _ _ _ _ _ _ h2, by simpa using h3⟩
  · refine ⟨h1, cs, ?_, h3⟩
    rw [heap_setCell_other _ _ _ _ (by simpa using e)]; exact h2
theorem VX.lie {W w : World} {k : Nat} (h : VX W k w) : (w.cell? ⟨k, 0, none⟩ = some (gc w ⟨k, 0, none⟩) ∧ w.cell? ⟨k, 1, none⟩ = some (gc w ⟨k, 1, none⟩) ∧ w.cell? ⟨k, 2, none⟩ = some (gc w ⟨k, 2, none⟩)) ∧
    w.frozen? ⟨k, 0, none⟩ = false ∧ w.frozen? ⟨k, 1, none⟩ = false ∧ w.frozen? ⟨k, 2, none⟩ = false := by
  obtain ⟨h1, cs, h5, h6⟩ := h
  have q : ∀ j, j < 3 → w.cell? ⟨k, j, none⟩ = some (gc w ⟨k, j, none⟩) := fun j hj => by
    have e := cell_of_row _ _ j _ _ _ h5
    rw [Array.getElem?_eq_getElem (by omega)] at e
    unfold gc; rw [e]; rfl
  exact ⟨⟨q 0 (by omega), q 1 (by omega), q 2 (by omega)⟩, frozen_of_row _ _ _ _ _ h5, frozen_of_row _ _ _ _ _ h5, frozen_of_row _ _ _ _ _ h5⟩
theorem VX.of {W w : World} {k : Nat} {c : Cl.C} (h : CV w k c) (hk : W.heap.size ≤ k) : VX W k w := ⟨hk, _, h.heap, rfl⟩
theorem gc_of {w : World} {a : Addr} {v : Value} (h : w.cell? a = some v) : gc w a = v := by unfold gc; rw [h]; rfl
theorem VX.put {W w : World} {k : Nat} (h : VX W k w) (a : Bool) (n : Int) (s : ByteArray) : CV (((w.setCell ⟨k, 0, none⟩ (.bool a)).setCell ⟨k, 1, none⟩ (.int .i64 n)).setCell ⟨k, 2, none⟩ (.string s)) k ⟨a, n, s⟩ := by
  obtain ⟨h1, cs, h5, h6⟩ := h
  unfold CV Blk
  rw [heap_setCell_same _ _ _ _ _ _ (heap_setCell_same _ _ _ _ _ _ (heap_setCell_same _ _ _ _ _ _ h5))]
  obtain ⟨l⟩ := cs
  match l, h6 with
  | [a, b, c], _ => rfl
theorem CV.past {w : World} {k j : Nat} {c : Cl.C} (h : CV w k c) (hj : k ≠ j) (a b d : Value) : CV (((w.setCell ⟨j, 0, none⟩ a).setCell ⟨j, 1, none⟩ b).setCell ⟨j, 2, none⟩ d) k c := by
  unfold CV Blk at h ⊢
  rw [heap_setCell_other _ _ _ _ (by simpa using hj), heap_setCell_other _ _ _ _ (by simpa using hj), heap_setCell_other _ _ _ _ (by simpa using hj)]; exact h
theorem Blk.past {w : World} {k j : Nat} {t : TypeId} {cs : List Value} (h : Blk w k t cs) (hj : k ≠ j) (a b d : Value) : Blk (((w.setCell ⟨j, 0, none⟩ a).setCell ⟨j, 1, none⟩ b).setCell ⟨j, 2, none⟩ d) k t cs := by
  unfold Blk at h ⊢
  rw [heap_setCell_other _ _ _ _ (by simpa using hj), heap_setCell_other _ _ _ _ (by simpa using hj), heap_setCell_other _ _ _ _ (by simpa using hj)]; exact h
end Go.Proofs.YtffdgcdmbccodaaGreatDoor
