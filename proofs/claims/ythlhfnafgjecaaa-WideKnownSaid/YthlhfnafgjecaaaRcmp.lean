/- The reference's Compare. -/
import Derived.Test.YthlhfnafgjecaaaRmul
namespace Go.Proofs.Ythlhfnafgjecaaa
open Go.RowKit
set_option linter.unusedVariables false

/-- Two rows of six that lie since W. -/
def L2 (w : World) (x y : Int) (ww : World) : Prop := Below w.heap.size w ww ∧ L6 ww w.heap.size (sr x) ∧ L6 ww (w.heap.size + 1) (sr y)
theorem L2.start (w : World) (x y : Int) : L2 w x y ((w.alloc (.cells (sr x) 43)).alloc (.cells (sr y) 43)) :=
  ⟨(up_new w _).alloc (by simp) _, (L6.last w _).later (up_new _ _), size1 w _ ▸ L6.last (w.alloc (.cells (sr x) 43)) (sr y)⟩
theorem L2.drewN {w : World} {x y : Int} {ww : World} (h : L2 w x y ww) (n : Nat) : L2 w x y (ww.drewN n) := ⟨below_drewN h.1 n, h.2.1, h.2.2⟩
theorem tp_lt (k : Nat) (x y : Int) (hk : k < 6) (h : Wd.tp (k + 1) x = Wd.tp (k + 1) y) (hd : Wd.dg k x < Wd.dg k y) : x < y := by
  have a := Wd.tp_dg k x hk
  have b := Wd.tp_dg k y hk
  exact Wd.tp_mono k x y (by omega)
theorem tp_eq (k : Nat) (x y : Int) (hk : k < 6) (h : Wd.tp (k + 1) x = Wd.tp (k + 1) y) (hd : Wd.dg k x = Wd.dg k y) : Wd.tp k x = Wd.tp k y := by
  have a := Wd.tp_dg k x hk
  have b := Wd.tp_dg k y hk
  omega
set_option maxHeartbeats 4000000 in
set_option maxRecDepth 100000 in
theorem rcmp_unlike (x y c : Int) (w : World) (bx : Bool) (hdx : decide (2147483648 ≤ Wd.dg 5 x) = bx) (hdy : decide (2147483648 ≤ Wd.dg 5 y) = !bx) (hc : c = if bx then -1 else 1) :
    Calls Try.prog 22 #[.agg (sr x), .agg (sr y)] w fun e w' => e = .returned (.int .i64 c) ∧ Below w.heap.size w w' := by
  have HL := Lib.hid (L2.start w x y)
  have g0 := HL.out.2.1.cell 5 (by omega)
  have g1 := HL.out.2.2.cell 5 (by omega)
  generalize Wd.dg 5 x = d5x at *
  generalize Wd.dg 5 y = d5y at *
  cases bx with
  | true =>
    have e1 : decide (2147483648 ≤ d5y) = false := hdy
    clear hdy
    subst hc
    go_enter Try.func22, Try.ntmps22
    go_wp2
    generalize (w.alloc (.cells (sr x) 43)).alloc (.cells (sr y) 43) = W0 at *
    go_quiet (fail)
    have H2 := Lib.hid (HL.out.drewN nq)
    generalize W0.drewN nq = W1 at *
    clear g0 g1
    go_wp2
    go_ret
    exact ⟨rfl, H2.out.1⟩
  | false =>
    have e1 : decide (2147483648 ≤ d5y) = true := hdy
    clear hdy
    subst hc
    go_enter Try.func22, Try.ntmps22
    go_wp2
    generalize (w.alloc (.cells (sr x) 43)).alloc (.cells (sr y) 43) = W0 at *
    go_quiet (fail)
    have H2 := Lib.hid (HL.out.drewN nq)
    generalize W0.drewN nq = W1 at *
    clear g0 g1
    go_wp2
    go_ret
    exact ⟨rfl, H2.out.1⟩
set_option maxHeartbeats 4000000 in
set_option maxRecDepth 100000 in
theorem rcmp_like (x y c : Int) (w : World) (bx : Bool) (hdx : decide (2147483648 ≤ Wd.dg 5 x) = bx) (hdy : decide (2147483648 ≤ Wd.dg 5 y) = bx) (ht : Wd.tp 6 x = Wd.tp 6 y) (hc : Wd.cmp x y = c) :
    Calls Try.prog 22 #[.agg (sr x), .agg (sr y)] w fun e w' => e = .returned (.int .i64 c) ∧ Below w.heap.size w w' := by
  have HL := Lib.hid (L2.start w x y)
  have HT := Lib.hid ht
  have HC := Lib.hid hc
  have g0 := HL.out.2.1.cell 5 (by omega)
  have g1 := HL.out.2.2.cell 5 (by omega)
  clear ht hc
  generalize Wd.dg 5 x = d5x at *
  generalize Wd.dg 5 y = d5y at *
  go_enter Try.func22, Try.ntmps22
  go_wp2
  generalize (w.alloc (.cells (sr x) 43)).alloc (.cells (sr y) 43) = W0 at *
  go_quiet (fail)
  have H2 := Lib.hid (HL.out.drewN nq)
  generalize W0.drewN nq = W1 at *
  clear g0 g1 HL
  go_wp2
  go_loopw [7] (fun i ww => ∃ (k : Nat) (m : Int), k ≤ 6 ∧ i = .int .i64 m ∧ m = k - 1 ∧ Hid (Wd.tp k x = Wd.tp k y) ∧ Hid (L2 w x y ww)) (fun i _ => (intOf i + 1).toNat)
  case atStart => exact ⟨6, 5, by omega, rfl, by omega, HT, H2⟩
  case round =>
    clear HT H2 hdx hdy
    obtain ⟨k, m, hk, rfl, hm, HT, HL⟩ := hrel
    rcases Nat.eq_zero_or_pos k with hk0 | hk0
    · have hm1 : m = -1 := by omega
      have HE : Hid (0 = c) := Lib.hid (by rw [← HC.out, show x = y by have := HT.out; rwa [hk0, Wd.tp_zero, Wd.tp_zero] at this, Wd.cmp_eq])
      clear hm
      subst hm1
      go_wp2
      go_ret
      exact ⟨congrArg Ending.returned (congrArg (Value.int IntKind.i64) HE.out), HL.out.1⟩
    · obtain ⟨j, rfl⟩ : ∃ j, k = j + 1 := ⟨k - 1, by omega⟩
      have hmj : m = (j : Int) := by omega
      clear hm
      subst hmj
      have hj6 : (j : Int) < 6 := by omega
      have g0 := HL.out.2.1.cell j (by omega)
      have g1 := HL.out.2.2.cell j (by omega)
      by_cases h1 : Wd.dg j x < Wd.dg j y
      · have HE : Hid (-1 = c) := Lib.hid (by rw [← HC.out, Wd.cmp_lt _ _ (tp_lt j x y (by omega) HT.out h1)])
        generalize Wd.dg j x = dx at *
        generalize Wd.dg j y = dy at *
        go_wp2
        go_quiet (fail)
        have H2 := Lib.hid (HL.out.drewN nq)
        generalize wr.drewN nq = W2 at *
        clear g0 g1 HL
        go_wp2
        go_ret
        exact ⟨congrArg Ending.returned (congrArg (Value.int IntKind.i64) HE.out), H2.out.1⟩
      · by_cases h2 : Wd.dg j y < Wd.dg j x
        · have HE : Hid (1 = c) := Lib.hid (by rw [← HC.out, Wd.cmp_gt _ _ (tp_lt j y x (by omega) HT.out.symm h2)])
          obtain ⟨dx, hdx⟩ : ∃ d, Wd.dg j x = d := ⟨_, rfl⟩
          obtain ⟨dy, hdy⟩ : ∃ d, Wd.dg j y = d := ⟨_, rfl⟩
          rw [hdx, hdy] at h1 h2
          have HDX := Lib.hid hdx
          have HDY := Lib.hid hdy
          rw [hdx] at g0
          rw [hdy] at g1
          clear hdx hdy
          go_wp2
          go_quiet (fail)
          have H2 := Lib.hid (HL.out.drewN nq)
          generalize wr.drewN nq = W2 at *
          clear g0 g1 HL
          have g2 := H2.out.2.1.cell j (by omega)
          have g3 := H2.out.2.2.cell j (by omega)
          rw [HDX.out] at g2
          rw [HDY.out] at g3
          go_wp2
          go_quiet (fail)
          have H3 := Lib.hid (H2.out.drewN nq)
          generalize W2.drewN nq = W3 at *
          clear g2 g3 H2
          go_wp2
          go_ret
          exact ⟨congrArg Ending.returned (congrArg (Value.int IntKind.i64) HE.out), H3.out.1⟩
        · have HT2 := Lib.hid (tp_eq j x y (by omega) HT.out (by omega))
          obtain ⟨dx, hdx⟩ : ∃ d, Wd.dg j x = d := ⟨_, rfl⟩
          have hdy : Wd.dg j y = dx := by omega
          have HDX := Lib.hid hdx
          have HDY := Lib.hid hdy
          rw [hdx] at g0
          rw [hdy] at g1
          clear hdx hdy h1 h2
          go_wp2
          go_quiet (fail)
          have H2 := Lib.hid (HL.out.drewN nq)
          generalize wr.drewN nq = W2 at *
          clear g0 g1 HL
          have g2 := H2.out.2.1.cell j (by omega)
          have g3 := H2.out.2.2.cell j (by omega)
          rw [HDX.out] at g2
          rw [HDY.out] at g3
          go_wp2
          go_quiet (fail)
          have H3 := Lib.hid (H2.out.drewN nq)
          generalize W2.drewN nq = W3 at *
          clear g2 g3 H2
          go_wp2
          go_roundw
          case rel => exact ⟨j, (j : Int) - 1, by omega, by go_num, rfl, HT2, H3⟩
          case measure => (first | (simp [intOf]; done) | (simp [intOf]; omega))
theorem rcompare (x y c : Int) (w : World) (hx : Wd.Sg x) (hy : Wd.Sg y) (hc : Wd.cmp x y = c) :
    Calls Try.prog 22 #[.agg (sr x), .agg (sr y)] w fun e w' => e = .returned (.int .i64 c) ∧ Below w.heap.size w w' := by
  have TX := Wd.tp_top x hx
  have TY := Wd.tp_top y hy
  by_cases hxs : 4294967296 / 2 ≤ Wd.dg 5 x
  · by_cases hys : 4294967296 / 2 ≤ Wd.dg 5 y
    · exact rcmp_like x y c w true (decide_eq_true (by omega)) (decide_eq_true (by omega)) ((TX.1 hxs).1.trans (TY.1 hys).1.symm) hc
    · refine rcmp_unlike x y c w true (decide_eq_true (by omega)) (decide_eq_false (by omega)) ?_
      have h1 := (TX.1 hxs).2
      have h2 := (TY.2 (by omega)).2
      exact hc.symm.trans (Wd.cmp_lt _ _ (by omega))
  · by_cases hys : 4294967296 / 2 ≤ Wd.dg 5 y
    · refine rcmp_unlike x y c w false (decide_eq_false (by omega)) (decide_eq_true (by omega)) ?_
      have h1 := (TX.2 (by omega)).2
      have h2 := (TY.1 hys).2
      exact hc.symm.trans (Wd.cmp_gt _ _ (by omega))
    · exact rcmp_like x y c w false (decide_eq_false (by omega)) (decide_eq_false (by omega)) ((TX.2 (by omega)).1.trans (TY.2 (by omega)).1.symm) hc
end Go.Proofs.Ythlhfnafgjecaaa
