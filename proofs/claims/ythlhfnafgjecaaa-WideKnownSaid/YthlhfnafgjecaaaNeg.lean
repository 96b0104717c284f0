/- Neg of the program. -/
import Derived.Test.YthlhfnafgjecaaaSums
import Derived.Deep.RegionHeld3
namespace Go.Proofs.Ythlhfnafgjecaaa
open Go.RowKit
set_option linter.unusedVariables false

/-- What a cell holds. -/
def gc (w : World) (a : Addr) : Value := (w.cell? a).getD undef
/-- Since W: nothing that was there has changed; a variable g holds three values still; a variable k of three cells may be written. -/
def V33 (W : World) (g k : Nat) (x y z : Value) (w : World) : Prop :=
  Below W.heap.size W w ∧ w.heap[g]? = some (.cells #[x, y, z] 25 (0, 0)) ∧ W.heap.size ≤ k ∧ g ≠ k ∧ ∃ cs : Array Value, w.heap[k]? = some (.cells cs 25 (0, 0)) ∧ cs.size = 3
theorem V33.later {W w w' : World} {g k : Nat} {x y z : Value} (h : V33 W g k x y z w) (hb : Below w.heap.size w w') : V33 W g k x y z w' := by
  obtain ⟨h1, h2, h3, h4, cs, h5, h6⟩ := h
  exact ⟨up h1 hb, below_row hb h2 (Nat.le_refl _), h3, h4, cs, below_row hb h5 (Nat.le_refl _), h6⟩
theorem V33.set {W w : World} {g k : Nat} {x y z : Value} (h : V33 W g k x y z w) (j : Nat) (v : Value) : V33 W g k x y z (w.setCell ⟨k, j, none⟩ v) := by
  obtain ⟨h1, h2, h3, h4, cs, h5, h6⟩ := h
  refine ⟨h1.setCell (by simpa using h3) _, ?_, h3, h4, cs.setIfInBounds j v, heap_setCell_same _ _ _ _ _ _ h5, by simpa using h6⟩
  rw [heap_setCell_other _ _ _ _ (by simpa using h4)]; exact h2
theorem V33.keep {W w : World} {g k : Nat} {x y z : Value} (h : V33 W g k x y z w) :
    V33 W g k x y z w ∧ (w.cell? ⟨g, 0, none⟩ = some x ∧ w.cell? ⟨g, 1, none⟩ = some y ∧ w.cell? ⟨g, 2, none⟩ = some z) ∧ (w.cell? ⟨k, 0, none⟩ = some (gc w ⟨k, 0, none⟩) ∧ w.cell? ⟨k, 1, none⟩ = some (gc w ⟨k, 1, none⟩) ∧ w.cell? ⟨k, 2, none⟩ = some (gc w ⟨k, 2, none⟩)) ∧
      w.frozen? ⟨k, 0, none⟩ = false ∧ w.frozen? ⟨k, 1, none⟩ = false ∧ w.frozen? ⟨k, 2, none⟩ = false := by
  obtain ⟨h1, h2, h3, h4, cs, h5, h6⟩ := id h
  have q : ∀ j, j < 3 → w.cell? ⟨k, j, none⟩ = some (gc w ⟨k, j, none⟩) := fun j hj => by
    have e := cell_of_row _ _ j _ _ _ h5
    rw [Array.getElem?_eq_getElem (by omega)] at e
    unfold gc; rw [e]; rfl
  exact ⟨h, ⟨cell_of_row _ _ _ _ _ _ h2, cell_of_row _ _ _ _ _ _ h2, cell_of_row _ _ _ _ _ _ h2⟩, ⟨q 0 (by omega), q 1 (by omega), q 2 (by omega)⟩, frozen_of_row _ _ _ _ _ h5, frozen_of_row _ _ _ _ _ h5, frozen_of_row _ _ _ _ _ h5⟩
theorem V33.three {W w : World} {g k : Nat} {x y z : Value} (h : V33 W g k x y z w) (p q r : Value) :
    (((w.setCell ⟨k, 0, none⟩ p).setCell ⟨k, 1, none⟩ q).setCell ⟨k, 2, none⟩ r).heap[k]? = some (.cells #[p, q, r] 25 (0, 0)) ∧ Below W.heap.size W (((w.setCell ⟨k, 0, none⟩ p).setCell ⟨k, 1, none⟩ q).setCell ⟨k, 2, none⟩ r) := by
  refine ⟨?_, (((h.set 0 p).set 1 q).set 2 r).1⟩
  obtain ⟨h1, h2, h3, h4, cs, h5, h6⟩ := h
  rw [heap_setCell_same _ _ _ _ _ _ (heap_setCell_same _ _ _ _ _ _ (heap_setCell_same _ _ _ _ _ _ h5))]
  obtain ⟨l⟩ := cs
  match l, h6 with
  | [a, b, c], _ => rfl
attribute [irreducible] gc
theorem info_wide : (Try.prog.info? 25).map (·.size) = some 3 := by kernel_rfl
theorem xor_max (a : Int) (h : Wd.Wo a) : bits BinOp.xor IntKind.u64 IntKind.u64.max a = 18446744073709551615 - a := by
  obtain ⟨h0, h1⟩ := h
  show IntKind.u64.wrap ((BitVec.ofInt 64 18446744073709551615 ^^^ BitVec.ofInt 64 a).toNat : Int) = _
  rw [show BitVec.ofInt 64 18446744073709551615 = BitVec.allOnes 64 by decide, BitVec.allOnes_xor, BitVec.toNat_not, BitVec.toNat_ofInt, IntKind.wrap_u64]
  omega
theorem add_is (x y z : Int) (w : World) (h : x + y = z) : Calls Try.prog 27 #[wv x, wv y] w fun e w' => e = .returned (wv z) ∧ Below w.heap.size w w' := by subst h; exact add x y w
set_option maxHeartbeats 2000000 in
theorem neg (x : Int) (w : World) : Calls Try.prog 9 #[wv x] w fun e w' => e = .returned (wv (-x)) ∧ Below w.heap.size w w' := by
  have h0 := Wd.lo_wo x
  have h1 := Wd.mi_wo x
  have h2 := Wd.hi_wo x
  have hs : IntKind.u64.signed = false := rfl
  have x0 := (xor_max _ h0).trans (Wd.not_lo x)
  have x1 := (xor_max _ h1).trans (Wd.not_mi x)
  have x2 := (xor_max _ h2).trans (Wd.not_hi x)
  have A := fun w => add_is (-1 - x) 1 (-x) w (by omega)
  clear h0 h1 h2
  unfold wv wr
  generalize Wd.lo x = a at *
  generalize Wd.mi x = b at *
  generalize Wd.hi x = c at *
  go_enter Try.func9, Try.ntmps9
  go_wp2
  have B0 : Below w.heap.size w ((w.alloc (.cells #[.int .u64 a, .int .u64 b, .int .u64 c] 25)).alloc (.cells #[.int .u64 0, .int .u64 0, .int .u64 0] 25)) := (up_new w _).alloc (by simp) _
  have R0 : ((w.alloc (.cells #[.int .u64 a, .int .u64 b, .int .u64 c] 25)).alloc (.cells #[.int .u64 0, .int .u64 0, .int .u64 0] 25)).heap[w.heap.size]? = some (.cells #[.int .u64 a, .int .u64 b, .int .u64 c] 25 (0, 0)) := heap_alloc2_old _ _ _
  have R1 : ((w.alloc (.cells #[.int .u64 a, .int .u64 b, .int .u64 c] 25)).alloc (.cells #[.int .u64 0, .int .u64 0, .int .u64 0] 25)).heap[w.heap.size + 1]? = some (.cells #[.int .u64 0, .int .u64 0, .int .u64 0] 25 (0, 0)) := heap_alloc2_new _ _ _
  have V0 : V33 w w.heap.size (w.heap.size + 1) (.int .u64 a) (.int .u64 b) (.int .u64 c) ((w.alloc (.cells #[.int .u64 a, .int .u64 b, .int .u64 c] 25)).alloc (.cells #[.int .u64 0, .int .u64 0, .int .u64 0] 25)) := ⟨B0, R0, by omega, by omega, _, R1, rfl⟩
  generalize (w.alloc (.cells #[.int .u64 a, .int .u64 b, .int .u64 c] 25)).alloc (.cells #[.int .u64 0, .int .u64 0, .int .u64 0] 25) = W0 at *
  have H0 := Lib.hid V0
  clear B0 R0 R1 V0
  go_region_held3 (fun w' => V33 w w.heap.size (w.heap.size + 1) (.int .u64 a) (.int .u64 b) (.int .u64 c) w' ∧ (w'.cell? ⟨w.heap.size, 0, none⟩ = some (.int .u64 a) ∧ w'.cell? ⟨w.heap.size, 1, none⟩ = some (.int .u64 b) ∧ w'.cell? ⟨w.heap.size, 2, none⟩ = some (.int .u64 c)) ∧
      (w'.cell? ⟨w.heap.size + 1, 0, none⟩ = some (gc w' ⟨w.heap.size + 1, 0, none⟩) ∧ w'.cell? ⟨w.heap.size + 1, 1, none⟩ = some (gc w' ⟨w.heap.size + 1, 1, none⟩) ∧ w'.cell? ⟨w.heap.size + 1, 2, none⟩ = some (gc w' ⟨w.heap.size + 1, 2, none⟩)) ∧ w'.frozen? ⟨w.heap.size + 1, 0, none⟩ = false ∧ w'.frozen? ⟨w.heap.size + 1, 1, none⟩ = false ∧ w'.frozen? ⟨w.heap.size + 1, 2, none⟩ = false)
    (first | exact V33.keep H0.out | exact V33.keep (V33.later H0.out ((Below.refl _ _).drew)) | exact V33.keep (V33.later (And.left (by assumption)) (by assumption)) | exact V33.keep (V33.set (V33.set (V33.set (And.left (by assumption)) _ _) _ _) _ _))
    (first
      | (go_at_call 23; refine (of_ 1 _ (by omega) (by omega)).mono ?_; rintro e w1 ⟨rfl, b1⟩)
      | (go_at_call 27; refine (A _).mono ?_; rintro e w2 ⟨rfl, b2⟩; unfold wv wr))
  have HT := V33.three (V33.later (V33.later (V33.later H0.out (Below.refl _ _).drew) b1) b2) (.int .u64 (Wd.lo (-x))) (.int .u64 (Wd.mi (-x))) (.int .u64 (Wd.hi (-x)))
  clear b1 b2 H0
  generalize ((w2.setCell ⟨w.heap.size + 1, 0, none⟩ (.int .u64 (Wd.lo (-x)))).setCell ⟨w.heap.size + 1, 1, none⟩ (.int .u64 (Wd.mi (-x)))).setCell ⟨w.heap.size + 1, 2, none⟩ (.int .u64 (Wd.hi (-x))) = w3 at *
  have HH := Lib.hid HT
  clear HT
  go_wp2
  exact bodyPost_ret (results_cell_row rfl _ _ (w.heap.size + 1) 25 _ _ _ rfl HH.out.1 Try.underlying25 rfl info_wide) rfl ⟨rfl, HH.out.2⟩
end Go.Proofs.Ythlhfnafgjecaaa
