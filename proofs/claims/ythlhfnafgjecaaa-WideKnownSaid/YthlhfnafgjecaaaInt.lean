/- Int of the program. -/
import Derived.Test.YthlhfnafgjecaaaMul
namespace Go.Proofs.Ythlhfnafgjecaaa
open Go.RowKit
set_option linter.unusedVariables false

/-- Since W: nothing that was there has changed; a variable g holds three values still. -/
def V3 (W : World) (g : Nat) (x y z : Value) (w : World) : Prop := Below W.heap.size W w ∧ w.heap[g]? = some (.cells #[x, y, z] 25 (0, 0))
theorem V3.later {W w w' : World} {g : Nat} {x y z : Value} (h : V3 W g x y z w) (hb : Below w.heap.size w w') : V3 W g x y z w' := ⟨up h.1 hb, below_row hb h.2 (Nat.le_refl _)⟩
theorem V3.keep {W w : World} {g : Nat} {x y z : Value} (h : V3 W g x y z w) : V3 W g x y z w ∧ w.cell? ⟨g, 0, none⟩ = some x ∧ w.cell? ⟨g, 1, none⟩ = some y ∧ w.cell? ⟨g, 2, none⟩ = some z :=
  ⟨h, cell_of_row _ _ _ _ _ _ h.2, cell_of_row _ _ _ _ _ _ h.2, cell_of_row _ _ _ _ _ _ h.2⟩
theorem V3.new (w : World) (x y z : Value) : V3 w w.heap.size x y z (w.alloc (.cells #[x, y, z] 25)) := ⟨up_new _ _, Go.heap_alloc_last w _⟩
/-- The lowest word, with its sign. -/
def sl (z : Int) : Int := if Wd.lo z < 9223372036854775808 then Wd.lo z else Wd.lo z - 18446744073709551616
theorem sl_fits (z : Int) : -9223372036854775808 ≤ sl z ∧ sl z ≤ 9223372036854775807 := by unfold sl Wd.lo; split <;> omega
theorem sl_wrap (z : Int) : IntKind.i64.wrap (Wd.lo z) = sl z := by
  have := Wd.lo_wo z
  unfold Wd.Wo at this
  unfold sl
  simp [IntKind.wrap, IntKind.bits, IntKind.signed]
  split <;> omega
theorem sl_id (z : Int) (h : Wd.F64 z) : sl z = z := by unfold sl Wd.lo Wd.F64 at *; split <;> omega
theorem sl_no (z : Int) (hz : Wd.Sg z) (h : ¬ Wd.F64 z) : ¬ (Wd.lo (sl z) = Wd.lo z ∧ Wd.mi (sl z) = Wd.mi z ∧ Wd.hi (sl z) = Wd.hi z) := by
  intro ⟨h0, h1, h2⟩
  have hs := sl_fits z
  have := Wd.inj _ _ (by unfold Wd.Sg; omega) hz h0 h1 h2
  rw [this] at hs
  exact h hs
set_option maxHeartbeats 2000000 in
theorem int_ (z : Int) (w : World) (hz : Wd.Sg z) :
    Calls Try.prog 18 #[wv z] w fun e w' => e = .returned (.tuple #[.int .i64 (Wd.ck z), .int .i64 (Wd.ce z)]) ∧ Below w.heap.size w w' := by
  have HW := sl_wrap z
  have HS := sl_fits z
  have O := fun w => of_ (sl z) w HS.1 HS.2
  clear HS
  by_cases hf : Wd.F64 z
  · rw [Wd.ck_yes z hf, Wd.ce_yes z hf]
    rw [sl_id z hf] at HW O
    clear hf hz
    unfold wv wr at *
    generalize Wd.lo z = a at *
    generalize Wd.mi z = b at *
    generalize Wd.hi z = c at *
    go_enter Try.func18, Try.ntmps18
    go_wp2_with fail
    have H0 := Lib.hid (V3.new w (.int .u64 a) (.int .u64 b) (.int .u64 c))
    generalize w.alloc (.cells #[.int .u64 a, .int .u64 b, .int .u64 c] 25) = W0 at *
    go_region_held3 (fun w' => V3 w w.heap.size (.int .u64 a) (.int .u64 b) (.int .u64 c) w' ∧ w'.cell? ⟨w.heap.size, 0, none⟩ = some (.int .u64 a) ∧ w'.cell? ⟨w.heap.size, 1, none⟩ = some (.int .u64 b) ∧ w'.cell? ⟨w.heap.size, 2, none⟩ = some (.int .u64 c))
      (first | exact V3.keep H0.out | exact V3.keep (V3.later H0.out ((Below.refl _ _).drew)) | exact V3.keep (V3.later (And.left (by assumption)) (by assumption)))
      (first
        | (go_at_call 23; refine (O _).mono ?_; rintro e w1 ⟨rfl, b1⟩))
    have HB := Lib.hid (V3.later (V3.later H0.out (Below.refl _ _).drew) b1).1
    clear H0 b1
    go_wp2
    go_ret2
    exact ⟨rfl, HB.out⟩
  · rw [Wd.ck_no z hf, Wd.ce_no z hf]
    have hne := sl_no z hz hf
    clear hf hz
    unfold wv wr at *
    generalize sl z = n at *
    generalize Wd.lo z = a at *
    generalize Wd.mi z = b at *
    generalize Wd.hi z = c at *
    generalize Wd.lo n = a' at *
    generalize Wd.mi n = b' at *
    generalize Wd.hi n = c' at *
    rcases (show ¬ a' = a ∨ (a' = a ∧ ¬ b' = b) ∨ (a' = a ∧ b' = b ∧ ¬ c' = c) by omega) with h | ⟨rfl, h⟩ | ⟨rfl, rfl, h⟩
    · clear hne
      go_enter Try.func18, Try.ntmps18
      go_wp2_with fail
      have H0 := Lib.hid (V3.new w (.int .u64 a) (.int .u64 b) (.int .u64 c))
      generalize w.alloc (.cells #[.int .u64 a, .int .u64 b, .int .u64 c] 25) = W0 at *
      go_region_held3 (fun w' => V3 w w.heap.size (.int .u64 a) (.int .u64 b) (.int .u64 c) w' ∧ w'.cell? ⟨w.heap.size, 0, none⟩ = some (.int .u64 a) ∧ w'.cell? ⟨w.heap.size, 1, none⟩ = some (.int .u64 b) ∧ w'.cell? ⟨w.heap.size, 2, none⟩ = some (.int .u64 c))
        (first | exact V3.keep H0.out | exact V3.keep (V3.later H0.out ((Below.refl _ _).drew)) | exact V3.keep (V3.later (And.left (by assumption)) (by assumption)))
        (first
          | (go_at_call 23; refine (O _).mono ?_; rintro e w1 ⟨rfl, b1⟩))
      have HB := Lib.hid (V3.later (V3.later H0.out (Below.refl _ _).drew) b1).1
      clear H0 b1
      go_wp2
      go_ret2
      exact ⟨rfl, HB.out⟩
    · clear hne
      go_enter Try.func18, Try.ntmps18
      go_wp2_with fail
      have H0 := Lib.hid (V3.new w (.int .u64 a') (.int .u64 b) (.int .u64 c))
      generalize w.alloc (.cells #[.int .u64 a', .int .u64 b, .int .u64 c] 25) = W0 at *
      go_region_held3 (fun w' => V3 w w.heap.size (.int .u64 a') (.int .u64 b) (.int .u64 c) w' ∧ w'.cell? ⟨w.heap.size, 0, none⟩ = some (.int .u64 a') ∧ w'.cell? ⟨w.heap.size, 1, none⟩ = some (.int .u64 b) ∧ w'.cell? ⟨w.heap.size, 2, none⟩ = some (.int .u64 c))
        (first | exact V3.keep H0.out | exact V3.keep (V3.later H0.out ((Below.refl _ _).drew)) | exact V3.keep (V3.later (And.left (by assumption)) (by assumption)))
        (first
          | (go_at_call 23; refine (O _).mono ?_; rintro e w1 ⟨rfl, b1⟩))
      have HB := Lib.hid (V3.later (V3.later H0.out (Below.refl _ _).drew) b1).1
      clear H0 b1
      go_wp2
      go_ret2
      exact ⟨rfl, HB.out⟩
    · clear hne
      go_enter Try.func18, Try.ntmps18
      go_wp2_with fail
      have H0 := Lib.hid (V3.new w (.int .u64 a') (.int .u64 b') (.int .u64 c))
      generalize w.alloc (.cells #[.int .u64 a', .int .u64 b', .int .u64 c] 25) = W0 at *
      go_region_held3 (fun w' => V3 w w.heap.size (.int .u64 a') (.int .u64 b') (.int .u64 c) w' ∧ w'.cell? ⟨w.heap.size, 0, none⟩ = some (.int .u64 a') ∧ w'.cell? ⟨w.heap.size, 1, none⟩ = some (.int .u64 b') ∧ w'.cell? ⟨w.heap.size, 2, none⟩ = some (.int .u64 c))
        (first | exact V3.keep H0.out | exact V3.keep (V3.later H0.out ((Below.refl _ _).drew)) | exact V3.keep (V3.later (And.left (by assumption)) (by assumption)))
        (first
          | (go_at_call 23; refine (O _).mono ?_; rintro e w1 ⟨rfl, b1⟩))
      have HB := Lib.hid (V3.later (V3.later H0.out (Below.refl _ _).drew) b1).1
      clear H0 b1
      go_wp2
      go_ret2
      exact ⟨rfl, HB.out⟩
end Go.Proofs.Ythlhfnafgjecaaa
