/- Words for what lies in memory: what was there stays; a variable's row of cells. -/
import Derived.Test.YthlhfnafgjecaaaChecked
import Derived.Test.YthlhfnafgjecaaaPlain
import Derived.WalkKit
import Derived.WalkSpells
import Derived.WalkLawsBesides
import Derived.WalkMore
import Derived.Lib.Hide
import Derived.Deep.WholeRow
import Derived.Laws.Rows
import Derived.Laws.Tables
import Derived.Laws.ResultCell
import Derived.Laws.Externs
namespace Go.Proofs.Ythlhfnafgjecaaa
open Go.RowKit
set_option linter.unusedVariables false

theorem up_alloc {w w1 w2 : World} {o : Obj} (h : Below w.heap.size w w1) (h2 : Below (w1.alloc o).heap.size (w1.alloc o) w2) : Below w.heap.size w w2 :=
  (h.alloc h.size o).trans (h2.mono (by have := h.size; simp; omega))
theorem up {w w1 w2 : World} (h : Below w.heap.size w w1) (h2 : Below w1.heap.size w1 w2) : Below w.heap.size w w2 := h.trans (h2.mono h.size)
theorem up_new (w : World) (o : Obj) : Below w.heap.size w (w.alloc o) := (Below.refl _ _).alloc (Nat.le_refl _) _
theorem undrew {w w' : World} (h : Below w.drew.heap.size w.drew w') : Below w.heap.size w w' := ⟨h.os, h.tape, h.output, h.size, h.block⟩
theorem Below.setRow' {B : Nat} {a w : World} (h : Below B a w) {g : Nat} (hg : B ≤ g) (cs : Array Value) : Below B a (w.setRow g cs) :=
  ⟨h.os, h.tape, h.output, by rw [setRow_size]; exact h.size, fun k hk => (setRow_other w g k cs (by omega)).trans (h.block k hk)⟩
theorem below_row {B : Nat} {w w' : World} (h : Below B w w') {g : Nat} {o : Obj} (hg : w.heap[g]? = some o) (hB : w.heap.size ≤ B) : w'.heap[g]? = some o := by
  have hlt : g < w.heap.size := by
    rcases Nat.lt_or_ge g w.heap.size with hlt | hge
    · exact hlt
    · rw [Array.getElem?_eq_none hge] at hg; cases hg
  rw [h.block g (by omega)]; exact hg

/-- A wide number, as a value; as a row of cells. -/
def wr (z : Int) : Array Value := #[.int .u64 (Wd.lo z), .int .u64 (Wd.mi z), .int .u64 (Wd.hi z)]
def wv (z : Int) : Value := .agg (wr z)
/-- Its digits. -/
def sr (z : Int) : Array Value := #[.int .u64 (Wd.dg 0 z), .int .u64 (Wd.dg 1 z), .int .u64 (Wd.dg 2 z), .int .u64 (Wd.dg 3 z), .int .u64 (Wd.dg 4 z), .int .u64 (Wd.dg 5 z)]
def sv (z : Int) : Value := .agg (sr z)
theorem wv_same (x y : Int) (h : Wd.lo x = Wd.lo y ∧ Wd.mi x = Wd.mi y ∧ Wd.hi x = Wd.hi y) : wv x = wv y := by
  unfold wv wr; rw [h.1, h.2.1, h.2.2]

theorem sr_size (z : Int) : (sr z).size = 6 := rfl
theorem sr_one (z : Int) : (sr z).all (·.oneCell') = true := by simp [sr, Value.oneCell']
theorem sr_get (z : Int) (k : Nat) (hk : k < 6) : (sr z)[k]? = some (.int .u64 (Wd.dg k z)) := by
  rcases (show k = 0 ∨ k = 1 ∨ k = 2 ∨ k = 3 ∨ k = 4 ∨ k = 5 by omega) with rfl | rfl | rfl | rfl | rfl | rfl <;> rfl
theorem info_six : (Try.prog.info? 43).map (·.size) = some 6 := by kernel_rfl
/-- The first k digits, then zeros. -/
def pr (z : Int) (k : Nat) : Array Value := Array.ofFn (n := 6) fun i => Value.int .u64 (if i.val < k then Wd.dg i.val z else 0)
theorem pr_size (z : Int) (k : Nat) : (pr z k).size = 6 := by simp [pr]
theorem pr_get (z : Int) (k i : Nat) (hi : i < 6) : (pr z k)[i]? = some (Value.int .u64 (if i < k then Wd.dg i z else 0)) := by simp [pr, hi]
theorem pr_all (z : Int) : pr z 6 = sr z := by
  apply Array.ext_getElem?
  intro i
  rcases Nat.lt_or_ge i 6 with hi | hi
  · rw [pr_get z 6 i hi, sr_get z i hi, if_pos hi]
  · rw [Array.getElem?_eq_none (by simp [pr_size]; omega), Array.getElem?_eq_none (by rw [sr_size]; omega)]
theorem pr_zero (z : Int) : pr z 0 = #[.int .u64 0, .int .u64 0, .int .u64 0, .int .u64 0, .int .u64 0, .int .u64 0] := by
  apply Array.ext_getElem?
  intro i
  rcases Nat.lt_or_ge i 6 with hi | hi
  · rw [pr_get z 0 i hi]
    rcases (show i = 0 ∨ i = 1 ∨ i = 2 ∨ i = 3 ∨ i = 4 ∨ i = 5 by omega) with rfl | rfl | rfl | rfl | rfl | rfl <;> rfl
  · rw [Array.getElem?_eq_none (by simp [pr_size]; omega), Array.getElem?_eq_none (by simp; omega)]
theorem pr_set (z : Int) (k : Nat) (hk : k < 6) : (pr z k).setIfInBounds k (Value.int .u64 (Wd.dg k z)) = pr z (k + 1) := by
  apply Array.ext_getElem?
  intro i
  rcases Nat.lt_or_ge i 6 with hi | hi
  · rw [Array.getElem?_setIfInBounds, pr_get z (k + 1) i hi]
    split
    · rename_i h
      subst h
      simp [pr_size, hk]
    · rw [pr_get z k i hi]
      congr 3
      simp [show i < k ↔ i < k + 1 by omega]
  · rw [Array.getElem?_eq_none (by simp [pr_size]; omega), Array.getElem?_eq_none (by simp [pr_size]; omega)]
theorem sr_same (x y : Int) (h : Wd.lo x = Wd.lo y ∧ Wd.mi x = Wd.mi y ∧ Wd.hi x = Wd.hi y) : sr x = sr y := by
  have d := Wd.dg_same x y h
  unfold sr
  rw [d 0 (by omega), d 1 (by omega), d 2 (by omega), d 3 (by omega), d 4 (by omega), d 5 (by omega)]
attribute [irreducible] sr pr
theorem below_drewN {W w : World} {B : Nat} (h : Below B W w) (n : Nat) : Below B W (w.drewN n) := ⟨h.os, h.tape, h.output, h.size, h.block⟩

/-- The sum with what is carried. -/
theorem add64 (x y c : Int) (hx : 0 ≤ x) (hy : 0 ≤ y) (hc0 : 0 ≤ c) (hc : c ≤ 1) (w : World) : (callFunc 42 #[.int .u64 x, .int .u64 y, .int .u64 c]).run Try.prog w =
    .ok (.value (.tuple #[.int .u64 ((x + y + c) % 18446744073709551616), .int .u64 ((x + y + c) / 18446744073709551616)])) w := by
  rw [run_callFunc_extern Try.func42 (by kernel_rfl) (by kernel_rfl) (by kernel_rfl) (e := add64Entry) (by kernel_rfl), run_add64 x y c hx hy hc0 hc]
  rfl
theorem add64_0 (x y : Int) (hx : 0 ≤ x) (hy : 0 ≤ y) (w : World) : (callFunc 42 #[.int .u64 x, .int .u64 y, .int .u64 0]).run Try.prog w =
    .ok (.value (.tuple #[.int .u64 ((x + y) % 18446744073709551616), .int .u64 ((x + y) / 18446744073709551616)])) w := by
  simpa using add64 x y 0 hx hy (Int.le_refl 0) (by decide) w
end Go.Proofs.Ythlhfnafgjecaaa
