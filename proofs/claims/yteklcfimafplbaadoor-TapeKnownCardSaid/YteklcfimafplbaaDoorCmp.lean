/- Keys that are compared; the closure that the sort asks. -/
import Derived.Test.YteklcfimafplbaaDoorRget
import Derived.Test.YteklcfimafplbaaDoorOrd
namespace Go.Proofs.YteklcfimafplbaaDoor
open Go.RowKit
set_option linter.unusedVariables false
set_option maxRecDepth 100000

def cmpB (x y : ByteArray) : Int := if Tp.ly x y = true then -1 else if Tp.ly y x = true then 1 else 0
theorem cmpB_lt (x y : ByteArray) : decide (cmpB x y < 0) = Tp.ly x y := by
  unfold cmpB
  cases h1 : Tp.ly x y <;> cases h2 : Tp.ly y x <;> simp
set_option maxHeartbeats 1000000 in
theorem isNaN (x : ByteArray) (w : World) : Calls Tryd.prog 86 #[.string x] w fun e w' => e = .returned (.bool false) ∧ w = w' := by
  have hq : (x.toList == x.toList) = true := by simp
  go_enter Tryd.func86, Tryd.ntmps86
  go_wp2_with fail
  go_ret
  exact ⟨by simp, rfl⟩
set_option maxHeartbeats 1000000 in
theorem cmpS (x y : ByteArray) (w : World) : Calls Tryd.prog 39 #[.string x, .string y] w fun e w' => e = .returned (.int .i64 (cmpB x y)) ∧ w = w' := by
  have C := fun x w => isNaN x w
  obtain ⟨r, hr⟩ : ∃ r, cmpB x y = r := ⟨_, rfl⟩
  rw [hr]
  unfold cmpB at hr
  have h1 := Tp.less_bl x y
  have h2 := Tp.less_bl y x
  unfold Tp.ly at hr
  have h3 : Tp.less (bl x) (bl y) = false → Tp.less (bl y) (bl x) = false → (x.toList == y.toList) = true := fun a b => by rw [bl_eq, Tp.less_tri a b]; simp
  have h4 : Tp.less (bl y) (bl x) = true → (x.toList == y.toList) = false := fun a => by
    rw [bl_eq]
    refine decide_eq_false fun e => ?_
    rw [e, Tp.less_irrefl] at a
    cases a
  generalize Tp.less (bl x) (bl y) = p at *
  generalize Tp.less (bl y) (bl x) = q at *
  have HC := Lib.hid C
  clear C
  cases p
  · cases q
    · obtain rfl : r = 0 := by simpa using hr.symm
      have h5 := h3 rfl rfl
      clear hr h3 h4
      go_enter Tryd.func39, Tryd.ntmps39
      go_wp2_with fail
      ((with_reducible refine (HC.out x _).mono ?_); rintro e w2 ⟨rfl, rfl⟩)
      go_wp2_with fail
      ((with_reducible refine (HC.out y _).mono ?_); rintro e w2 ⟨rfl, rfl⟩)
      go_wp2_with fail
      go_ret
      exact ⟨rfl, rfl⟩
    · obtain rfl : r = 1 := by simpa using hr.symm
      have h5 := h4 rfl
      clear hr h3 h4
      go_enter Tryd.func39, Tryd.ntmps39
      go_wp2_with fail
      ((with_reducible refine (HC.out x _).mono ?_); rintro e w2 ⟨rfl, rfl⟩)
      go_wp2_with fail
      ((with_reducible refine (HC.out y _).mono ?_); rintro e w2 ⟨rfl, rfl⟩)
      go_wp2_with fail
      go_ret
      exact ⟨rfl, rfl⟩
  · obtain rfl : r = -1 := by simpa using hr.symm
    clear hr h3 h4
    go_enter Tryd.func39, Tryd.ntmps39
    go_wp2_with fail
    ((with_reducible refine (HC.out x _).mono ?_); rintro e w2 ⟨rfl, rfl⟩)
    go_wp2_with fail
    ((with_reducible refine (HC.out y _).mono ?_); rintro e w2 ⟨rfl, rfl⟩)
    go_wp2_with fail
    go_ret
    exact ⟨rfl, rfl⟩
set_option maxHeartbeats 4000000 in
/-- The closure: two places are compared by their keys. -/
theorem cmpAt (l : List Nd) (v : Value) (tb : Nat) (w : World) (B : Nat) (h : RdN w B v l) (ht : w.cell? ⟨tb, 0, none⟩ = some v) (p q : Nat) (x y : Nd) (hx : l[p]? = some x) (hy : l[q]? = some y) :
    Calls Tryd.prog 38 #[.int .i64 p, .int .i64 q, .pointer (some ⟨tb, 0, none⟩)] w fun e w' => e = .returned (.int .i64 (cmpB x.key y.key)) ∧ ∃ n, w' = w.drewN n := by
  obtain ⟨ad, c, rfl, _⟩ := Gn.Rd.form h
  obtain ⟨b0, off, rfl, _, x1, _⟩ := rdN_cells h (Below.refl _ _) hx
  obtain ⟨b', off', e, _, y1, _⟩ := rdN_cells h (Below.refl _ _) hy
  obtain ⟨rfl, rfl⟩ : b0 = b' ∧ off = off' := by injection e with e; injection e with e1 e2; exact ⟨e1, e2⟩
  have f0 : ∀ n, (w.drewN n).cell? ⟨tb, 0, none⟩ = some (.slice (some ⟨b0, off, none⟩) l.length c) := fun n => ht
  have f1 : ∀ n, (w.drewN n).cell? ⟨b0, off + p * 5 + 1, none⟩ = some (.string x.key) := fun n => x1
  have f2 : ∀ n, (w.drewN n).cell? ⟨b0, off + q * 5 + 1, none⟩ = some (.string y.key) := fun n => y1
  have hp : (p : Int) < l.length := by have := (List.getElem?_eq_some_iff.1 hx).1; omega
  have hq : (q : Int) < l.length := by have := (List.getElem?_eq_some_iff.1 hy).1; omega
  have C := Lib.hid (fun w => cmpS x.key y.key w)
  clear h ht x1 y1 e hx hy
  go_enter Tryd.func38, Tryd.ntmps38
  go_wp2_with fail
  go_quiet ((go_at_call 39; exact Calls.quiet_of_same ((C.out _).mono (fun _ _ h => ⟨h.1, h.2.symm⟩))))
  go_wp2_with fail
  go_ret
  exact ⟨rfl, _, rfl⟩
end Go.Proofs.YteklcfimafplbaaDoor
