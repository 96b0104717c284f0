/- Cells that are compared: package cmp's functions, Compare of the program and of the reference. -/
import Derived.Test.YtfplogjdcndohaaGreatDoorClV
import Derived.Deep.DrawnRows
import Derived.StillTailTactics
import Derived.BigRegion
namespace Go.Proofs.YtfplogjdcndohaaGreatDoor.Wd
def cmp (x y : Int) : Int := if x < y then -1 else if y < x then 1 else 0
theorem cmp_lt (x y : Int) (h : x < y) : cmp x y = -1 := by unfold cmp; rw [if_pos h]
theorem cmp_gt (x y : Int) (h : y < x) : cmp x y = 1 := by unfold cmp; rw [if_neg (by omega), if_pos h]
theorem cmp_eq (x : Int) : cmp x x = 0 := by unfold cmp; simp
end Go.Proofs.YtfplogjdcndohaaGreatDoor.Wd
namespace Go.Proofs.YtfplogjdcndohaaGreatDoor
open Go.RowKit
set_option linter.unusedVariables false
set_option maxRecDepth 100000

def cmpB (x y : ByteArray) : Int := if Tp.ly x y = true then -1 else if Tp.ly y x = true then 1 else 0
set_option maxHeartbeats 1000000 in
theorem nan_i (x : Int) (w : World) : Calls Tryz.prog 89 #[.int .i64 x] w fun e w' => e = .returned (.bool false) ∧ w = w' := by
  go_enter Tryz.func89, Tryz.ntmps89
  go_wp2
  go_ret
  exact ⟨rfl, rfl⟩
set_option maxHeartbeats 1000000 in
theorem cmp_i (x y c : Int) (w : World) (hc : Wd.cmp x y = c) : Calls Tryz.prog 60 #[.int .i64 x, .int .i64 y] w fun e w' => e = .returned (.int .i64 c) ∧ w = w' := by
  have HC := Lib.hid hc
  clear hc
  by_cases h1 : x < y
  · go_enter Tryz.func60, Tryz.ntmps60
    go_wp2_with fail
    ((with_reducible refine (nan_i x _).mono ?_); rintro e w' ⟨rfl, rfl⟩)
    go_wp2_with fail
    ((with_reducible refine (nan_i y _).mono ?_); rintro e w' ⟨rfl, rfl⟩)
    go_wp2
    go_ret
    exact ⟨by rw [← HC.out, Wd.cmp_lt _ _ h1]; rfl, rfl⟩
  · by_cases h2 : y < x
    · go_enter Tryz.func60, Tryz.ntmps60
      go_wp2_with fail
      ((with_reducible refine (nan_i x _).mono ?_); rintro e w' ⟨rfl, rfl⟩)
      go_wp2_with fail
      ((with_reducible refine (nan_i y _).mono ?_); rintro e w' ⟨rfl, rfl⟩)
      go_wp2
      go_ret
      exact ⟨by rw [← HC.out, Wd.cmp_gt _ _ h2]; rfl, rfl⟩
    · obtain rfl : x = y := by omega
      go_enter Tryz.func60, Tryz.ntmps60
      go_wp2_with fail
      ((with_reducible refine (nan_i x _).mono ?_); rintro e w' ⟨rfl, rfl⟩)
      go_wp2_with fail
      ((with_reducible refine (nan_i x _).mono ?_); rintro e w' ⟨rfl, rfl⟩)
      go_wp2
      go_ret
      exact ⟨by rw [← HC.out, Wd.cmp_eq]; rfl, rfl⟩
set_option maxHeartbeats 1000000 in
theorem isNaN (x : ByteArray) (w : World) : Calls Tryz.prog 90 #[.string x] w fun e w' => e = .returned (.bool false) ∧ w = w' := by
  have hq : (x.toList == x.toList) = true := by simp
  go_enter Tryz.func90, Tryz.ntmps90
  go_wp2_with fail
  go_ret
  exact ⟨by simp, rfl⟩
set_option maxHeartbeats 1000000 in
theorem cmpS (x y : ByteArray) (w : World) : Calls Tryz.prog 61 #[.string x, .string y] w fun e w' => e = .returned (.int .i64 (cmpB x y)) ∧ w = w' := by
  have C := fun x w => isNaN x w
  obtain ⟨r, hr⟩ : ∃ r, cmpB x y = r := ⟨_, rfl⟩
  rw [hr]
  unfold cmpB at hr
  have h1 := Tp.less_bl x y
  have h2 := Tp.less_bl y x
  unfold Tp.ly at hr
  have h3 : Tp.less (bl x) (bl y) = false → Tp.less (bl y) (bl x) = false → (x.toList == y.toList) = true := fun a b => by rw [bl_eq, Tp.less_tri a b]; simp
  have h4 : Tp.less (bl y) (bl x) = true → (x.toList == y.toList) = false := fun a => by
    rw [bl_eq]
    refine decide_eq_false fun e => ?_
    rw [e, Tp.less_irrefl] at a
    cases a
  generalize Tp.less (bl x) (bl y) = p at *
  generalize Tp.less (bl y) (bl x) = q at *
  have HC := Lib.hid C
  clear C
  cases p
  · cases q
    · obtain rfl : r = 0 := by simpa using hr.symm
      have h5 := h3 rfl rfl
      clear hr h3 h4
      go_enter Tryz.func61, Tryz.ntmps61
      go_wp2_with fail
      ((with_reducible refine (HC.out x _).mono ?_); rintro e w2 ⟨rfl, rfl⟩)
      go_wp2_with fail
      ((with_reducible refine (HC.out y _).mono ?_); rintro e w2 ⟨rfl, rfl⟩)
      go_wp2_with fail
      go_ret
      exact ⟨rfl, rfl⟩
    · obtain rfl : r = 1 := by simpa using hr.symm
      have h5 := h4 rfl
      clear hr h3 h4
      go_enter Tryz.func61, Tryz.ntmps61
      go_wp2_with fail
      ((with_reducible refine (HC.out x _).mono ?_); rintro e w2 ⟨rfl, rfl⟩)
      go_wp2_with fail
      ((with_reducible refine (HC.out y _).mono ?_); rintro e w2 ⟨rfl, rfl⟩)
      go_wp2_with fail
      go_ret
      exact ⟨rfl, rfl⟩
  · obtain rfl : r = -1 := by simpa using hr.symm
    clear hr h3 h4
    go_enter Tryz.func61, Tryz.ntmps61
    go_wp2_with fail
    ((with_reducible refine (HC.out x _).mono ?_); rintro e w2 ⟨rfl, rfl⟩)
    go_wp2_with fail
    ((with_reducible refine (HC.out y _).mono ?_); rintro e w2 ⟨rfl, rfl⟩)
    go_wp2_with fail
    go_ret
    exact ⟨rfl, rfl⟩
/-- The first of two that is not 0. -/
def fst2 (a b : Int) : Int := if a ≠ 0 then a else b
set_option maxHeartbeats 2000000 in
theorem or2 (g n : Nat) (a b : Int) (w : World) (h0 : w.cell? ⟨g, 0, none⟩ = some (.int .i64 a)) (h1 : w.cell? ⟨g, 1, none⟩ = some (.int .i64 b)) :
    Calls Tryz.prog 45 #[.slice (some ⟨g, 0, none⟩) 2 n] w fun e w' => e = .returned (.int .i64 (fst2 a b)) ∧ w = w' := by
  have hf : ∀ k : Nat, k < 2 → w.cell? ⟨g, k, none⟩ = some (.int .i64 (if k = 0 then a else b)) := fun k hk => by
    rcases (show k = 0 ∨ k = 1 by omega) with rfl | rfl
    · exact h0
    · exact h1
  have HF := Lib.hid hf
  clear hf h0 h1
  go_enter Tryz.func45, Tryz.ntmps45
  go_wp2
  go_loop [8] (fun i => ∃ k : Nat, k ≤ 2 ∧ i = .int .i64 k ∧ ∀ j, j < k → (if j = 0 then a else b) = 0) (fun i => 2 - (intOf i).toNat)
  case atStart => exact ⟨0, by omega, rfl, fun j hj => by omega⟩
  case round =>
    obtain ⟨k, hk, rfl, hz⟩ := hrel
    have HZ := Lib.hid hz
    clear hz
    by_cases hlt : k < 2
    · have hg := HF.out k hlt
      by_cases hx : (if k = 0 then a else b) = 0
      · rw [hx] at hg
        have HX := Lib.hid hx
        clear hx
        go_wp2
        go_round
        case rel => exact ⟨k + 1, by omega, by go_num, fun j hj => by
          rcases Nat.lt_or_ge j k with h | h
          · exact HZ.out j h
          · rw [show j = k by omega]; exact HX.out⟩
        case measure => simp [intOf]; omega
      · have HE : Hid ((if k = 0 then a else b) = fst2 a b) := Lib.hid (by
          have q0 := HZ.out 0
          unfold fst2
          rcases (show k = 0 ∨ k = 1 by omega) with rfl | rfl
          · simp at hx ⊢; simp [hx]
          · simp at hx q0 ⊢; simp [q0])
        generalize (if k = 0 then a else b) = x at *
        have hx' : ((x : Int) != 0) = true := by simpa using hx
        go_wp2
        go_ret
        exact ⟨congrArg Ending.returned (congrArg (Value.int IntKind.i64) HE.out), rfl⟩
    · have HE : Hid (0 = fst2 a b) := Lib.hid (by
        have q0 := HZ.out 0 (by omega)
        have q1 := HZ.out 1 (by omega)
        simp at q0 q1
        unfold fst2
        simp [q0, q1])
      go_wp2
      go_ret
      exact ⟨congrArg Ending.returned (congrArg (Value.int IntKind.i64) HE.out), rfl⟩
end Go.Proofs.YtfplogjdcndohaaGreatDoor
