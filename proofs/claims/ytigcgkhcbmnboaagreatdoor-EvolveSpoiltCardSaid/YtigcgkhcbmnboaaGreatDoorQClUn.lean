/- QClUn. -/
import Derived.Test.YtigcgkhcbmnboaaGreatDoorQClRd
/- Unbits of the program. -/
namespace Go.Proofs.YtigcgkhcbmnboaaGreatDoor
open Go.RowKit
set_option linter.unusedVariables false
set_option maxRecDepth 100000

/-- What a cell of memory holds. -/
def gc (w : World) (a : Addr) : Value := (w.cell? a).getD undef
/-- Since W: nothing that was there has changed; a variable of a kind holds its functions still; a variable of a cell may be written. -/
def VU (W : World) (g k : Nat) (F : List Value) (w : World) : Prop :=
  Below W.heap.size W w ∧ Blk w g 104 F ∧ W.heap.size ≤ k ∧ g ≠ k ∧ ∃ cs : Array Value, w.heap[k]? = some (.cells cs 61 (0, 0)) ∧ cs.size = 3
theorem row_later {w w' : World} {k : Nat} {o : Obj} (hb : Below w.heap.size w w') (h : w.heap[k]? = some o) : w'.heap[k]? = some o := by
  have hlt : k < w.heap.size := by
    rcases Nat.lt_or_ge k w.heap.size with h' | h'
    · exact h'
    · rw [Array.getElem?_eq_none h'] at h; cases h
  rw [hb.block k hlt]; exact h
theorem VU.later {W w w' : World} {g k : Nat} {F : List Value} (h : VU W g k F w) (hb : Below w.heap.size w w') : VU W g k F w' := by
  obtain ⟨h1, h2, h3, h4, cs, h5, h6⟩ := h
  exact ⟨up h1 hb, h2.later hb, h3, h4, cs, row_later hb h5, h6⟩
theorem VU.set {W w : World} {g k : Nat} {F : List Value} (h : VU W g k F w) (j : Nat) (v : Value) : VU W g k F (w.setCell ⟨k, j, none⟩ v) := by
  obtain ⟨h1, h2, h3, h4, cs, h5, h6⟩ := h
  refine ⟨h1.setCell (by simpa using h3) _, ?_, h3, h4, cs.setIfInBounds j v, heap_setCell_same _ _ _ _ _ _ h5, by simpa using h6⟩
  unfold Blk
  rw [heap_setCell_other _ _ _ _ (by simpa using h4)]; exact h2
theorem VU.keep {W w : World} {g k : Nat} {F : List Value} (h : VU W g k F w) :
    VU W g k F w ∧ w.cell? ⟨g, 4, none⟩ = F[4]? ∧ (w.cell? ⟨k, 0, none⟩ = some (gc w ⟨k, 0, none⟩) ∧ w.cell? ⟨k, 1, none⟩ = some (gc w ⟨k, 1, none⟩) ∧ w.cell? ⟨k, 2, none⟩ = some (gc w ⟨k, 2, none⟩)) ∧
      w.frozen? ⟨k, 0, none⟩ = false ∧ w.frozen? ⟨k, 1, none⟩ = false ∧ w.frozen? ⟨k, 2, none⟩ = false := by
  obtain ⟨h1, h2, h3, h4, cs, h5, h6⟩ := id h
  have q : ∀ j, j < 3 → w.cell? ⟨k, j, none⟩ = some (gc w ⟨k, j, none⟩) := fun j hj => by
    have e := cell_of_row _ _ j _ _ _ h5
    rw [Array.getElem?_eq_getElem (by omega)] at e
    unfold gc; rw [e]; rfl
  exact ⟨h, h2.cell 4, ⟨q 0 (by omega), q 1 (by omega), q 2 (by omega)⟩, frozen_of_row _ _ _ _ _ h5, frozen_of_row _ _ _ _ _ h5, frozen_of_row _ _ _ _ _ h5⟩
theorem VU.three {W w : World} {g k : Nat} {F : List Value} (h : VU W g k F w) (a : Bool) (n : Int) (s : ByteArray) :
    CV (((w.setCell ⟨k, 0, none⟩ (.bool a)).setCell ⟨k, 1, none⟩ (.int .i64 n)).setCell ⟨k, 2, none⟩ (.string s)) k ⟨a, n, s⟩ ∧ VU W g k F (((w.setCell ⟨k, 0, none⟩ (.bool a)).setCell ⟨k, 1, none⟩ (.int .i64 n)).setCell ⟨k, 2, none⟩ (.string s)) := by
  refine ⟨?_, ((h.set 0 _).set 1 _).set 2 _⟩
  obtain ⟨h1, h2, h3, h4, cs, h5, h6⟩ := h
  unfold CV Blk
  rw [heap_setCell_same _ _ _ _ _ _ (heap_setCell_same _ _ _ _ _ _ (heap_setCell_same _ _ _ _ _ _ h5))]
  obtain ⟨l⟩ := cs
  match l, h6 with
  | [a, b, c], _ => rfl
attribute [irreducible] gc
/-- What Unbits answers. -/
def UbPost (w : World) (r : Cl.C × Nat × Nat) (e : Ending) (w' : World) : Prop := e = .returned (.tuple #[cv r.1, .int .i64 (r.2.1 : Nat), .int .i64 (r.2.2 : Nat)]) ∧ Below w.heap.size w w'
end Go.Proofs.YtigcgkhcbmnboaaGreatDoor

/- Unbits of the program: the other kinds. -/
namespace Go.Proofs.YtigcgkhcbmnboaaGreatDoor
open Go.RowKit
set_option linter.unusedVariables false
set_option maxRecDepth 100000

end Go.Proofs.YtigcgkhcbmnboaaGreatDoor
