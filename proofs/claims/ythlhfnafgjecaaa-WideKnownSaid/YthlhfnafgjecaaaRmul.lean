/- The reference's Mul. -/
import Derived.Test.YthlhfnafgjecaaaRneg
import Derived.LoopTactic
namespace Go.Proofs.Ythlhfnafgjecaaa
open Go.RowKit
set_option linter.unusedVariables false

namespace Wd
/-- The products of digit i with the first k digits, at their places. -/
def inn (a b : Int) (i : Nat) : Nat → Int
  | 0 => 0
  | k + 1 => inn a b i k + dg i a * dg k b * P (i + k)
def out (a b : Int) : Nat → Int
  | 0 => 0
  | i + 1 => out a b i + inn a b i 2
theorem out_two (a b : Int) (a0 : 0 ≤ a) (a1 : a < 18446744073709551616) (b0 : 0 ≤ b) (b1 : b < 18446744073709551616) : out a b 2 = a * b := by
  have ha : a = dg 1 a * 4294967296 + dg 0 a := by simp only [dg, P]; omega
  have hb : b = dg 1 b * 4294967296 + dg 0 b := by simp only [dg, P]; omega
  simp only [out, inn, P, Nat.zero_add, Nat.add_zero, Int.mul_one, Int.zero_add]
  conv => rhs; rw [ha, hb]
  generalize dg 1 a = x at *
  generalize dg 0 a = y at *
  generalize dg 1 b = u at *
  generalize dg 0 b = v at *
  rw [Int.add_mul, Int.mul_add, Int.mul_add, Int.mul_assoc x 4294967296 (u * 4294967296), Int.mul_left_comm 4294967296 u 4294967296, ← Int.mul_assoc x u, Int.mul_right_comm x 4294967296 v, ← Int.mul_assoc y u 4294967296]
  omega
theorem prod_lt (x y : Int) (hx : 0 ≤ x ∧ x < 4294967296) (hy : 0 ≤ y ∧ y < 4294967296) : 0 ≤ x * y ∧ x * y < 18446744073709551616 := by
  refine ⟨Int.mul_nonneg hx.1 hy.1, ?_⟩
  have := Int.mul_le_mul (show x ≤ 4294967295 by omega) (show y ≤ 4294967295 by omega) hy.1 (by omega)
  omega
end Wd
/-- One product, at its place, as digits. -/
theorem sr_two (j : Nat) (p : Int) (hj : j ≤ 2) (h0 : 0 ≤ p) (h1 : p < 18446744073709551616) :
    (([Value.int .u64 0, .int .u64 0, .int .u64 0, .int .u64 0, .int .u64 0, .int .u64 0].set j (.int .u64 (p % 4294967296))).set (j + 1) (.int .u64 (p / 4294967296))).toArray = sr (p * Wd.P j) := by
  unfold sr
  rcases (show j = 0 ∨ j = 1 ∨ j = 2 by omega) with rfl | rfl | rfl
  · simp only [Wd.dg, Wd.P]
    rw [show p * 1 / 1 % 4294967296 = p % 4294967296 by omega, show p * 1 / 4294967296 % 4294967296 = p / 4294967296 by omega, show p * 1 / 18446744073709551616 % 4294967296 = 0 by omega, show p * 1 / 79228162514264337593543950336 % 4294967296 = 0 by omega, show p * 1 / 340282366920938463463374607431768211456 % 4294967296 = 0 by omega, show p * 1 / 1461501637330902918203684832716283019655932542976 % 4294967296 = 0 by omega]
    rfl
  · simp only [Wd.dg, Wd.P]
    rw [show p * 4294967296 / 1 % 4294967296 = 0 by omega, show p * 4294967296 / 4294967296 % 4294967296 = p % 4294967296 by omega, show p * 4294967296 / 18446744073709551616 % 4294967296 = p / 4294967296 by omega, show p * 4294967296 / 79228162514264337593543950336 % 4294967296 = 0 by omega, show p * 4294967296 / 340282366920938463463374607431768211456 % 4294967296 = 0 by omega, show p * 4294967296 / 1461501637330902918203684832716283019655932542976 % 4294967296 = 0 by omega]
    rfl
  · simp only [Wd.dg, Wd.P]
    rw [show p * 18446744073709551616 / 1 % 4294967296 = 0 by omega, show p * 18446744073709551616 / 4294967296 % 4294967296 = 0 by omega, show p * 18446744073709551616 / 18446744073709551616 % 4294967296 = p % 4294967296 by omega, show p * 18446744073709551616 / 79228162514264337593543950336 % 4294967296 = p / 4294967296 by omega, show p * 18446744073709551616 / 340282366920938463463374607431768211456 % 4294967296 = 0 by omega, show p * 18446744073709551616 / 1461501637330902918203684832716283019655932542976 % 4294967296 = 0 by omega]
    rfl

theorem list6 (j : Nat) (h : j ≤ 2) : [Value.int .u64 0, .int .u64 0, .int .u64 0, .int .u64 0, .int .u64 0, .int .u64 0][j]? = some (.int .u64 0) := by
  rcases (show j = 0 ∨ j = 1 ∨ j = 2 by omega) with rfl | rfl | rfl <;> rfl
theorem list5 (j : Nat) (h : j ≤ 2) : [Value.int .u64 0, .int .u64 0, .int .u64 0, .int .u64 0, .int .u64 0][j]? = some (.int .u64 0) := by
  rcases (show j = 0 ∨ j = 1 ∨ j = 2 by omega) with rfl | rfl | rfl <;> rfl
/-- The four variables of a product: the result, the two numbers, the sum. -/
def M4 (w : World) (gx gy go : Nat) (x y s : Int) (ww : World) : Prop :=
  w.heap.size < gx ∧ gx < gy ∧ gy < go ∧ Below w.heap.size w ww ∧ L6 ww w.heap.size z6 ∧ L6 ww gx (sr x) ∧ L6 ww gy (sr y) ∧ L6 ww go (sr s)
theorem M4.later {w ww w' : World} {gx gy go : Nat} {x y s : Int} (h : M4 w gx gy go x y s ww) (hb : Below ww.heap.size ww w') : M4 w gx gy go x y s w' := by
  obtain ⟨a, b, c, d, e, f, g, i⟩ := h
  exact ⟨a, b, c, up d hb, e.later hb, f.later hb, g.later hb, i.later hb⟩
theorem M4.put {w ww : World} {gx gy go : Nat} {x y s : Int} (h : M4 w gx gy go x y s ww) (t : Int) : M4 w gx gy go x y t (ww.setRow go (sr t)) := by
  obtain ⟨a, b, c, d, e, f, g, i⟩ := h
  exact ⟨a, b, c, Below.setRow' d (by omega) _, e.row_other (by omega) _, f.row_other (by omega) _, g.row_other (by omega) _, i.row _⟩
/-- Ahead of the sum: the result, the two numbers. -/
def M3 (w : World) (gx gy : Nat) (x y : Int) (ww : World) : Prop :=
  w.heap.size < gx ∧ gx < gy ∧ gy < ww.heap.size ∧ Below w.heap.size w ww ∧ L6 ww w.heap.size z6 ∧ L6 ww gx (sr x) ∧ L6 ww gy (sr y)
theorem M3.later {w ww w' : World} {gx gy : Nat} {x y : Int} (h : M3 w gx gy x y ww) (hb : Below ww.heap.size ww w') : M3 w gx gy x y w' := by
  obtain ⟨a, b, c, d, e, f, g⟩ := h
  exact ⟨a, b, Nat.lt_of_lt_of_le c hb.size, up d hb, e.later hb, f.later hb, g.later hb⟩
theorem M3.putx {w ww : World} {gx gy : Nat} {x y : Int} (h : M3 w gx gy x y ww) (t : Int) : M3 w gx gy t y (ww.setRow gx (sr t)) := by
  obtain ⟨a, b, c, d, e, f, g⟩ := h
  exact ⟨a, b, by rw [setRow_size]; exact c, Below.setRow' d (by omega) _, e.row_other (by omega) _, f.row _, g.row_other (by omega) _⟩
theorem M3.puty {w ww : World} {gx gy : Nat} {x y : Int} (h : M3 w gx gy x y ww) (t : Int) : M3 w gx gy x t (ww.setRow gy (sr t)) := by
  obtain ⟨a, b, c, d, e, f, g⟩ := h
  exact ⟨a, b, by rw [setRow_size]; exact c, Below.setRow' d (by omega) _, e.row_other (by omega) _, f.row_other (by omega) _, g.row _⟩
theorem sr_0 : #[Value.int .u64 0, .int .u64 0, .int .u64 0, .int .u64 0, .int .u64 0, .int .u64 0] = sr 0 := by unfold sr; rfl
theorem M3.four {w ww : World} {gx gy : Nat} {x y : Int} (h : M3 w gx gy x y ww) : M4 w gx gy ww.heap.size x y 0 (ww.alloc (.cells #[.int .u64 0, .int .u64 0, .int .u64 0, .int .u64 0, .int .u64 0, .int .u64 0] 43)) := by
  have hb := up_new ww (.cells #[.int .u64 0, .int .u64 0, .int .u64 0, .int .u64 0, .int .u64 0, .int .u64 0] 43)
  obtain ⟨a, b, c, d, e, f, g⟩ := h
  exact ⟨a, b, c, up d hb, e.later hb, f.later hb, g.later hb, sr_0 ▸ L6.last ww _⟩
/-- Behind the two calls: the variables are laid and written. -/
theorem M3.start {w w1 w2 : World} (x y : Int) (b1 : Below (w.alloc (.cells z6 43)).heap.size (w.alloc (.cells z6 43)) w1) (b2 : Below w1.heap.size w1 w2) :
    L6 ((w2.alloc (.cells z6 43)).alloc (.cells z6 43)) w2.heap.size z6 ∧
    L6 (((w2.alloc (.cells z6 43)).alloc (.cells z6 43)).setRow w2.heap.size (sr x)) (w2.heap.size + 1) z6 ∧
    M3 w w2.heap.size (w2.heap.size + 1) x y ((((w2.alloc (.cells z6 43)).alloc (.cells z6 43)).setRow w2.heap.size (sr x)).setRow (w2.heap.size + 1) (sr y)) := by
  have hA := L6.last w z6
  have h0 := (((hA.later b1).later b2).later (up_new w2 (.cells z6 43))).later (up_new _ (.cells z6 43))
  have h1 := (L6.last w2 z6).later (up_new _ (.cells z6 43))
  have h2 : L6 ((w2.alloc (.cells z6 43)).alloc (.cells z6 43)) (w2.heap.size + 1) z6 := size1 w2 _ ▸ L6.last (w2.alloc (.cells z6 43)) z6
  have s1 := b1.size
  have s2 := b2.size
  rw [size1] at s1
  have B : Below w.heap.size w ((w2.alloc (.cells z6 43)).alloc (.cells z6 43)) := ((up (up_alloc (Below.refl _ _) b1) b2).alloc (by omega) _).alloc (by simp; omega) _
  refine ⟨h1, h2.row_other (by omega) _, by omega, by omega, by simp [setRow_size], Below.setRow' (Below.setRow' B (by omega) _) (by omega) _, (h0.row_other (by omega) _).row_other (by omega) _, (h1.row _).row_other (by omega) _, (h2.row_other (by omega) _).row _⟩
set_option maxHeartbeats 8000000 in
set_option maxRecDepth 100000 in
theorem rmul_pp (a b : Int) (w : World) (a0 : -9223372036854775808 ≤ a) (a1 : a ≤ 9223372036854775807) (b0 : -9223372036854775808 ≤ b) (b1 : b ≤ 9223372036854775807) (ha : ¬ a < 0) (hb : ¬ b < 0) :
    Calls Try.prog 26 #[.int .i64 a, .int .i64 b] w fun e w' => e = .returned (.agg (sr (a * b))) ∧ Below w.heap.size w w' := by
  have c0 := Lib.hid (fun w => sixOf a w a0 a1)
  have c1 := Lib.hid (fun w => sixOf b w b0 b1)
  have N := Lib.hid (fun x w => rneg x (-x) w rfl)
  have HI := fun z => Lib.hid (six_info (sr z) (sr_size z))
  have HZ := fun z => Lib.hid (show z6.size = (sr z).size by rw [sr_size]; rfl)
  have HQS := fun z y => Lib.hid (show (sr y).size = (sr z).size by rw [sr_size, sr_size])
  have HO := fun z => Lib.hid (sr_one z)
  have HX : Hid (Wd.out a b 2 = a * b) := Lib.hid (Wd.out_two _ _ (by omega) (by omega) (by omega) (by omega))
  clear a0 a1 b0 b1
  have hd : (decide (a < 0) == decide (b < 0)) = true := by simp [ha, hb]
  have hda : decide (a < 0) = false := by simp [ha]
  have hdb : decide (b < 0) = false := by simp [hb]
  go_enter Try.func26, Try.ntmps26
  go_wp2_with fail
  ((with_reducible refine (c0.out _).mono ?_); rintro e w1 ⟨rfl, b1⟩)
  have B1 := Lib.hid b1
  clear b1
  go_wp2_with fail
  ((with_reducible refine (c1.out _).mono ?_); rintro e w2 ⟨rfl, b2⟩)
  have HS := Lib.hid (M3.start a b B1.out b2)
  clear b2 B1 c0 c1
  generalize hgx : w2.heap.size = gx at *
  generalize hgy : gx + 1 = gy at *
  go_wp2_with (first
    | refine wpList_store_row rfl 43 (.tmp 5) (.tmp 13) rfl gx (sr a) rfl rfl 43 z6 HS.out.1 (HI a).out (HZ a).out (HO a).out ?_
    | refine wpList_store_row rfl 43 (.tmp 6) (.tmp 15) rfl gy (sr b) rfl rfl 43 z6 HS.out.2.1 (HI b).out (HZ b).out (HO b).out ?_)
  have HM := Lib.hid (M3.four HS.out.2.2)
  unfold z6 at HM
  (try rw [setRow_size] at HM)
  (try rw [setRow_size] at HM)
  (try rw [size2] at HM)
  (try rw [hgx] at HM)
  (try rw [hgy] at HM)
  obtain ⟨go, hgo⟩ : ∃ go, gy + 1 = go := ⟨_, rfl⟩
  rw [hgo] at HM ⊢
  generalize ((((w2.alloc (.cells #[.int .u64 0, .int .u64 0, .int .u64 0, .int .u64 0, .int .u64 0, .int .u64 0] 43)).alloc (.cells #[.int .u64 0, .int .u64 0, .int .u64 0, .int .u64 0, .int .u64 0, .int .u64 0] 43)).setRow gx (sr a)).setRow gy (sr b)).alloc (.cells #[.int .u64 0, .int .u64 0, .int .u64 0, .int .u64 0, .int .u64 0, .int .u64 0] 43) = W0 at *
  clear HS N
  go_loopw [8] (fun i ww => ∃ n : Nat, n ≤ 2 ∧ i = .int .i64 n ∧ Hid (M4 w gx gy go a b (Wd.out a b n) ww)) (fun i _ => 2 - (intOf i).toNat)
  case atStart => exact ⟨0, by omega, rfl, HM⟩
  case round =>
    clear HM
    obtain ⟨n, hn, rfl, HM⟩ := hrel
    by_cases hlt : n < 2
    · have hlt' : (n : Int) < 2 := by omega
      go_wp2
      go_loopw [9] (fun i ww => ∃ m : Nat, m ≤ 2 ∧ i = .int .i64 m ∧ Hid (M4 w gx gy go a b (Wd.out a b n + Wd.inn a b n m) ww)) (fun i _ => 2 - (intOf i).toNat)
      case atStart => exact ⟨0, by omega, rfl, by rw [show Wd.inn a b n 0 = 0 from rfl, Int.add_zero]; exact HM⟩
      case round =>
        clear HM
        obtain ⟨m, hm, rfl, HM⟩ := hrel
        by_cases hmt : m < 2
        · have hmt' : (m : Int) < 2 := by omega
          have g0 := HM.out.2.2.2.2.2.1.cell n (by omega)
          have g1 := HM.out.2.2.2.2.2.2.1.cell m (by omega)
          have hp := Wd.prod_lt _ _ (Wd.dg_lt n a) (Wd.dg_lt m b)
          have HQ := Lib.hid (sr_two (n + m) (Wd.dg n a * Wd.dg m b) (by omega) hp.1 hp.2)
          have HT := Lib.hid (show Wd.inn a b n (m + 1) = Wd.inn a b n m + Wd.dg n a * Wd.dg m b * Wd.P (n + m) from rfl)
          have A := Lib.hid (fun w => radd (Wd.out a b n + Wd.inn a b n m) (Wd.dg n a * Wd.dg m b * Wd.P (n + m)) (Wd.out a b n + Wd.inn a b n (m + 1)) w (by rw [HT.out]; omega))
          obtain ⟨hp0, hp1⟩ := hp
          clear HT
          have hn6 : (n : Int) < 6 := by omega
          have hm6 : (m : Int) < 6 := by omega
          go_wp2
          go_quiet (fail)
          have HM2 := Lib.hid (HM.out.later (below_drewN (Below.refl wr.heap.size wr) nq))
          clear HM g0 g1
          generalize wr.drewN nq = w5 at *
          generalize Wd.dg n a * Wd.dg m b = p at *
          have hnm : (n : Int) + m < 6 := by omega
          have hnm0 : (0 : Int) ≤ (n : Int) + m := by omega
          have hnm1 : (n : Int) + m + 1 < 6 := by omega
          have l6 := list6 (n + m) (by omega)
          have l5 := list5 (n + m) (by omega)
          go_wp2_with (first
            | refine wpList_load_row rfl 43 (.tmp 7) rfl go rfl 43 (sr (Wd.out a b n + Wd.inn a b n m)) (0, 0) _ (HM2.out.later (up_new w5 _)).2.2.2.2.2.2.2 Try.underlying43 rfl (HI _).out ?_
            | refine wpList_load_row rfl 43 (.tmp 11) rfl w5.heap.size rfl 43 _ (0, 0) _ (Go.heap_alloc_last w5 _) Try.underlying43 rfl (by rw [HQ.out]; exact (HI _).out) ?_)
          rw [HQ.out]
          have HM3 := Lib.hid (HM2.out.later (up_new w5 (.cells (sr (p * Wd.P (n + m))) 43)))
          generalize w5.alloc (.cells (sr (p * Wd.P (n + m))) 43) = w6 at *
          ((with_reducible refine (A.out _).mono ?_); rintro e w7 ⟨rfl, b7⟩)
          have HM4 := Lib.hid (HM3.out.later b7)
          have HM5 := Lib.hid (HM4.out.put (Wd.out a b n + Wd.inn a b n (m + 1)))
          clear HM2 HM3 b7 l5 l6 hnm hnm0 hnm1 hn6 hm6 A HQ
          go_wp2_with (refine wpList_store_row rfl 43 (.tmp 7) (.tmp 54) rfl go (sr (Wd.out a b n + Wd.inn a b n (m + 1))) rfl rfl 43 _ HM4.out.2.2.2.2.2.2.2 (HI _).out (HQS _ _).out (HO _).out ?_)
          go_roundw
          case rel => exact ⟨m + 1, by omega, by go_num, HM5⟩
          case measure => simp [intOf]; omega
        · have hme : m = 2 := by omega
          have hmt' : ¬ (m : Int) < 2 := by omega
          have HM2 : Hid (M4 w gx gy go a b (Wd.out a b (n + 1)) wr) := Lib.hid (by have := HM.out; rw [hme] at this; exact this)
          clear HM hme
          go_wp2
          go_roundw
          case rel => exact ⟨n + 1, by omega, by go_num, HM2⟩
          case measure => simp [intOf]; omega
    · have hlt' : ¬ (n : Int) < 2 := by omega
      have hne : n = 2 := by omega
      have HM2 : Hid (M4 w gx gy go a b (a * b) wr) := Lib.hid (by have := HM.out; rw [hne, HX.out] at this; exact this)
      clear HM hne
      have HE : Hid (a * b = a * b) := Lib.hid rfl
      rw [HE.out] at HM2
      have R2 := Lib.hid (HM2.out.2.2.2.2.1.row (sr (a * b)))
      have B2 := Lib.hid (Below.setRow' HM2.out.2.2.2.1 (g := w.heap.size) (Nat.le_refl _) (sr (a * b)))
      go_wp2_with (first
        | refine wpList_load_row rfl 43 (.tmp 7) rfl go rfl 43 (sr (a * b)) (0, 0) _ HM2.out.2.2.2.2.2.2.2 Try.underlying43 rfl (HI _).out ?_
        | refine wpList_store_row rfl 43 (.tmp 4) (.tmp 62) rfl w.heap.size (sr (a * b)) rfl rfl 43 z6 HM2.out.2.2.2.2.1 (HI _).out (HZ _).out (HO _).out ?_)
      (try simp only [Exit.inBlock, Exit.then])
      refine bodyPost_ret (v := .agg (sr (a * b))) ?_ rfl ⟨rfl, B2.out⟩
      exact results_cell_row rfl _ _ w.heap.size 43 _ _ _ rfl R2.out Try.underlying43 rfl (HI _).out
set_option maxHeartbeats 8000000 in
set_option maxRecDepth 100000 in
theorem rmul_np (a b : Int) (w : World) (a0 : -9223372036854775808 ≤ a) (a1 : a ≤ 9223372036854775807) (b0 : -9223372036854775808 ≤ b) (b1 : b ≤ 9223372036854775807) (ha : a < 0) (hb : ¬ b < 0) :
    Calls Try.prog 26 #[.int .i64 a, .int .i64 b] w fun e w' => e = .returned (.agg (sr (a * b))) ∧ Below w.heap.size w w' := by
  have c0 := Lib.hid (fun w => sixOf a w a0 a1)
  have c1 := Lib.hid (fun w => sixOf b w b0 b1)
  have N := Lib.hid (fun x w => rneg x (-x) w rfl)
  have HI := fun z => Lib.hid (six_info (sr z) (sr_size z))
  have HZ := fun z => Lib.hid (show z6.size = (sr z).size by rw [sr_size]; rfl)
  have HQS := fun z y => Lib.hid (show (sr y).size = (sr z).size by rw [sr_size, sr_size])
  have HO := fun z => Lib.hid (sr_one z)
  have HX : Hid (Wd.out (-a) b 2 = (-a) * b) := Lib.hid (Wd.out_two _ _ (by omega) (by omega) (by omega) (by omega))
  clear a0 a1 b0 b1
  have hd : (decide (a < 0) == decide (b < 0)) = false := by simp [ha, hb]
  have hda : decide (a < 0) = true := by simp [ha]
  have hdb : decide (b < 0) = false := by simp [hb]
  go_enter Try.func26, Try.ntmps26
  go_wp2_with fail
  ((with_reducible refine (c0.out _).mono ?_); rintro e w1 ⟨rfl, b1⟩)
  have B1 := Lib.hid b1
  clear b1
  go_wp2_with fail
  ((with_reducible refine (c1.out _).mono ?_); rintro e w2 ⟨rfl, b2⟩)
  have HS := Lib.hid (M3.start a b B1.out b2)
  clear b2 B1 c0 c1
  generalize hgx : w2.heap.size = gx at *
  generalize hgy : gx + 1 = gy at *
  have K1 := Lib.hid HS.out.2.2
  unfold z6 at K1
  go_wp2_with (first
    | refine wpList_store_row rfl 43 (.tmp 5) (.tmp 13) rfl gx (sr a) rfl rfl 43 z6 HS.out.1 (HI a).out (HZ a).out (HO a).out ?_
    | refine wpList_store_row rfl 43 (.tmp 6) (.tmp 15) rfl gy (sr b) rfl rfl 43 z6 HS.out.2.1 (HI b).out (HZ b).out (HO b).out ?_
    | refine wpList_load_row rfl 43 (.tmp 5) rfl gx rfl 43 (sr a) (0, 0) _ K1.out.2.2.2.2.2.1 Try.underlying43 rfl (HI a).out ?_)
  have L1 := Lib.hid K1.out
  generalize (((w2.alloc (.cells #[.int .u64 0, .int .u64 0, .int .u64 0, .int .u64 0, .int .u64 0, .int .u64 0] 43)).alloc (.cells #[.int .u64 0, .int .u64 0, .int .u64 0, .int .u64 0, .int .u64 0, .int .u64 0] 43)).setRow gx (sr a)).setRow gy (sr b) = v1 at *
  ((with_reducible refine (N.out a _).mono ?_); rintro e u1 ⟨rfl, b1⟩)
  have J1 := Lib.hid (L1.out.later b1)
  clear L1 K1 b1
  clear HS
  go_wp2_with (first
    | refine wpList_store_row rfl 43 (.tmp 5) (.tmp 19) rfl gx (sr (-a)) rfl rfl 43 (sr a) J1.out.2.2.2.2.2.1 (HI _).out (HQS _ _).out (HO _).out ?_)
  have HM := Lib.hid (M3.four (J1.out.putx (-a)))
  unfold z6 at HM
  (try rw [setRow_size] at HM)
  (try rw [setRow_size] at HM)
  (try rw [size2] at HM)
  (try rw [hgx] at HM)
  (try rw [hgy] at HM)
  obtain ⟨go, hgo⟩ : ∃ go, u1.heap.size = go := ⟨_, rfl⟩
  rw [hgo] at HM ⊢
  generalize (u1.setRow gx (sr (-a))).alloc (.cells #[.int .u64 0, .int .u64 0, .int .u64 0, .int .u64 0, .int .u64 0, .int .u64 0] 43) = W0 at *
  clear J1
  go_loopw [8] (fun i ww => ∃ n : Nat, n ≤ 2 ∧ i = .int .i64 n ∧ Hid (M4 w gx gy go (-a) b (Wd.out (-a) b n) ww)) (fun i _ => 2 - (intOf i).toNat)
  case atStart => exact ⟨0, by omega, rfl, HM⟩
  case round =>
    clear HM
    obtain ⟨n, hn, rfl, HM⟩ := hrel
    by_cases hlt : n < 2
    · have hlt' : (n : Int) < 2 := by omega
      go_wp2
      go_loopw [9] (fun i ww => ∃ m : Nat, m ≤ 2 ∧ i = .int .i64 m ∧ Hid (M4 w gx gy go (-a) b (Wd.out (-a) b n + Wd.inn (-a) b n m) ww)) (fun i _ => 2 - (intOf i).toNat)
      case atStart => exact ⟨0, by omega, rfl, by rw [show Wd.inn (-a) b n 0 = 0 from rfl, Int.add_zero]; exact HM⟩
      case round =>
        clear HM
        obtain ⟨m, hm, rfl, HM⟩ := hrel
        by_cases hmt : m < 2
        · have hmt' : (m : Int) < 2 := by omega
          have g0 := HM.out.2.2.2.2.2.1.cell n (by omega)
          have g1 := HM.out.2.2.2.2.2.2.1.cell m (by omega)
          have hp := Wd.prod_lt _ _ (Wd.dg_lt n (-a)) (Wd.dg_lt m b)
          have HQ := Lib.hid (sr_two (n + m) (Wd.dg n (-a) * Wd.dg m b) (by omega) hp.1 hp.2)
          have HT := Lib.hid (show Wd.inn (-a) b n (m + 1) = Wd.inn (-a) b n m + Wd.dg n (-a) * Wd.dg m b * Wd.P (n + m) from rfl)
          have A := Lib.hid (fun w => radd (Wd.out (-a) b n + Wd.inn (-a) b n m) (Wd.dg n (-a) * Wd.dg m b * Wd.P (n + m)) (Wd.out (-a) b n + Wd.inn (-a) b n (m + 1)) w (by rw [HT.out]; omega))
          obtain ⟨hp0, hp1⟩ := hp
          clear HT
          have hn6 : (n : Int) < 6 := by omega
          have hm6 : (m : Int) < 6 := by omega
          go_wp2
          go_quiet (fail)
          have HM2 := Lib.hid (HM.out.later (below_drewN (Below.refl wr.heap.size wr) nq))
          clear HM g0 g1
          generalize wr.drewN nq = w5 at *
          generalize Wd.dg n (-a) * Wd.dg m b = p at *
          have hnm : (n : Int) + m < 6 := by omega
          have hnm0 : (0 : Int) ≤ (n : Int) + m := by omega
          have hnm1 : (n : Int) + m + 1 < 6 := by omega
          have l6 := list6 (n + m) (by omega)
          have l5 := list5 (n + m) (by omega)
          go_wp2_with (first
            | refine wpList_load_row rfl 43 (.tmp 7) rfl go rfl 43 (sr (Wd.out (-a) b n + Wd.inn (-a) b n m)) (0, 0) _ (HM2.out.later (up_new w5 _)).2.2.2.2.2.2.2 Try.underlying43 rfl (HI _).out ?_
            | refine wpList_load_row rfl 43 (.tmp 11) rfl w5.heap.size rfl 43 _ (0, 0) _ (Go.heap_alloc_last w5 _) Try.underlying43 rfl (by rw [HQ.out]; exact (HI _).out) ?_)
          rw [HQ.out]
          have HM3 := Lib.hid (HM2.out.later (up_new w5 (.cells (sr (p * Wd.P (n + m))) 43)))
          generalize w5.alloc (.cells (sr (p * Wd.P (n + m))) 43) = w6 at *
          ((with_reducible refine (A.out _).mono ?_); rintro e w7 ⟨rfl, b7⟩)
          have HM4 := Lib.hid (HM3.out.later b7)
          have HM5 := Lib.hid (HM4.out.put (Wd.out (-a) b n + Wd.inn (-a) b n (m + 1)))
          clear HM2 HM3 b7 l5 l6 hnm hnm0 hnm1 hn6 hm6 A HQ
          go_wp2_with (refine wpList_store_row rfl 43 (.tmp 7) (.tmp 54) rfl go (sr (Wd.out (-a) b n + Wd.inn (-a) b n (m + 1))) rfl rfl 43 _ HM4.out.2.2.2.2.2.2.2 (HI _).out (HQS _ _).out (HO _).out ?_)
          go_roundw
          case rel => exact ⟨m + 1, by omega, by go_num, HM5⟩
          case measure => simp [intOf]; omega
        · have hme : m = 2 := by omega
          have hmt' : ¬ (m : Int) < 2 := by omega
          have HM2 : Hid (M4 w gx gy go (-a) b (Wd.out (-a) b (n + 1)) wr) := Lib.hid (by have := HM.out; rw [hme] at this; exact this)
          clear HM hme
          go_wp2
          go_roundw
          case rel => exact ⟨n + 1, by omega, by go_num, HM2⟩
          case measure => simp [intOf]; omega
    · have hlt' : ¬ (n : Int) < 2 := by omega
      have hne : n = 2 := by omega
      have HM2 : Hid (M4 w gx gy go (-a) b ((-a) * b) wr) := Lib.hid (by have := HM.out; rw [hne, HX.out] at this; exact this)
      clear HM hne
      have HE : Hid (-((-a) * b) = a * b) := Lib.hid (by rw [Int.neg_mul, Int.neg_neg])
      go_wp2_with (refine wpList_load_row rfl 43 (.tmp 7) rfl go rfl 43 (sr ((-a) * b)) (0, 0) _ HM2.out.2.2.2.2.2.2.2 Try.underlying43 rfl (HI _).out ?_)
      ((with_reducible refine (N.out ((-a) * b) _).mono ?_); rintro e w8 ⟨rfl, b8⟩)
      rw [HE.out]
      have HM3 := Lib.hid (HM2.out.later b8)
      have R2 := Lib.hid (HM3.out.2.2.2.2.1.row (sr (a * b)))
      have B2 := Lib.hid (Below.setRow' HM3.out.2.2.2.1 (g := w.heap.size) (Nat.le_refl _) (sr (a * b)))
      clear HM2 b8
      go_wp2_with (refine wpList_store_row rfl 43 (.tmp 4) (.tmp 61) rfl w.heap.size (sr (a * b)) rfl rfl 43 z6 HM3.out.2.2.2.2.1 (HI _).out (HZ _).out (HO _).out ?_)
      (try simp only [Exit.inBlock, Exit.then])
      refine bodyPost_ret (v := .agg (sr (a * b))) ?_ rfl ⟨rfl, B2.out⟩
      exact results_cell_row rfl _ _ w.heap.size 43 _ _ _ rfl R2.out Try.underlying43 rfl (HI _).out
set_option maxHeartbeats 8000000 in
set_option maxRecDepth 100000 in
theorem rmul_pn (a b : Int) (w : World) (a0 : -9223372036854775808 ≤ a) (a1 : a ≤ 9223372036854775807) (b0 : -9223372036854775808 ≤ b) (b1 : b ≤ 9223372036854775807) (ha : ¬ a < 0) (hb : b < 0) :
    Calls Try.prog 26 #[.int .i64 a, .int .i64 b] w fun e w' => e = .returned (.agg (sr (a * b))) ∧ Below w.heap.size w w' := by
  have c0 := Lib.hid (fun w => sixOf a w a0 a1)
  have c1 := Lib.hid (fun w => sixOf b w b0 b1)
  have N := Lib.hid (fun x w => rneg x (-x) w rfl)
  have HI := fun z => Lib.hid (six_info (sr z) (sr_size z))
  have HZ := fun z => Lib.hid (show z6.size = (sr z).size by rw [sr_size]; rfl)
  have HQS := fun z y => Lib.hid (show (sr y).size = (sr z).size by rw [sr_size, sr_size])
  have HO := fun z => Lib.hid (sr_one z)
  have HX : Hid (Wd.out a (-b) 2 = a * (-b)) := Lib.hid (Wd.out_two _ _ (by omega) (by omega) (by omega) (by omega))
  clear a0 a1 b0 b1
  have hd : (decide (a < 0) == decide (b < 0)) = false := by simp [ha, hb]
  have hda : decide (a < 0) = false := by simp [ha]
  have hdb : decide (b < 0) = true := by simp [hb]
  go_enter Try.func26, Try.ntmps26
  go_wp2_with fail
  ((with_reducible refine (c0.out _).mono ?_); rintro e w1 ⟨rfl, b1⟩)
  have B1 := Lib.hid b1
  clear b1
  go_wp2_with fail
  ((with_reducible refine (c1.out _).mono ?_); rintro e w2 ⟨rfl, b2⟩)
  have HS := Lib.hid (M3.start a b B1.out b2)
  clear b2 B1 c0 c1
  generalize hgx : w2.heap.size = gx at *
  generalize hgy : gx + 1 = gy at *
  have K1 := Lib.hid HS.out.2.2
  unfold z6 at K1
  go_wp2_with (first
    | refine wpList_store_row rfl 43 (.tmp 5) (.tmp 13) rfl gx (sr a) rfl rfl 43 z6 HS.out.1 (HI a).out (HZ a).out (HO a).out ?_
    | refine wpList_store_row rfl 43 (.tmp 6) (.tmp 15) rfl gy (sr b) rfl rfl 43 z6 HS.out.2.1 (HI b).out (HZ b).out (HO b).out ?_
    | refine wpList_load_row rfl 43 (.tmp 6) rfl gy rfl 43 (sr b) (0, 0) _ K1.out.2.2.2.2.2.2 Try.underlying43 rfl (HI b).out ?_)
  have L1 := Lib.hid K1.out
  generalize (((w2.alloc (.cells #[.int .u64 0, .int .u64 0, .int .u64 0, .int .u64 0, .int .u64 0, .int .u64 0] 43)).alloc (.cells #[.int .u64 0, .int .u64 0, .int .u64 0, .int .u64 0, .int .u64 0, .int .u64 0] 43)).setRow gx (sr a)).setRow gy (sr b) = v1 at *
  ((with_reducible refine (N.out b _).mono ?_); rintro e u1 ⟨rfl, b1⟩)
  have J1 := Lib.hid (L1.out.later b1)
  clear L1 K1 b1
  clear HS
  go_wp2_with (first
    | refine wpList_store_row rfl 43 (.tmp 6) (.tmp 23) rfl gy (sr (-b)) rfl rfl 43 (sr b) J1.out.2.2.2.2.2.2 (HI _).out (HQS _ _).out (HO _).out ?_)
  have HM := Lib.hid (M3.four (J1.out.puty (-b)))
  unfold z6 at HM
  (try rw [setRow_size] at HM)
  (try rw [setRow_size] at HM)
  (try rw [size2] at HM)
  (try rw [hgx] at HM)
  (try rw [hgy] at HM)
  obtain ⟨go, hgo⟩ : ∃ go, u1.heap.size = go := ⟨_, rfl⟩
  rw [hgo] at HM ⊢
  generalize (u1.setRow gy (sr (-b))).alloc (.cells #[.int .u64 0, .int .u64 0, .int .u64 0, .int .u64 0, .int .u64 0, .int .u64 0] 43) = W0 at *
  clear J1
  go_loopw [8] (fun i ww => ∃ n : Nat, n ≤ 2 ∧ i = .int .i64 n ∧ Hid (M4 w gx gy go a (-b) (Wd.out a (-b) n) ww)) (fun i _ => 2 - (intOf i).toNat)
  case atStart => exact ⟨0, by omega, rfl, HM⟩
  case round =>
    clear HM
    obtain ⟨n, hn, rfl, HM⟩ := hrel
    by_cases hlt : n < 2
    · have hlt' : (n : Int) < 2 := by omega
      go_wp2
      go_loopw [9] (fun i ww => ∃ m : Nat, m ≤ 2 ∧ i = .int .i64 m ∧ Hid (M4 w gx gy go a (-b) (Wd.out a (-b) n + Wd.inn a (-b) n m) ww)) (fun i _ => 2 - (intOf i).toNat)
      case atStart => exact ⟨0, by omega, rfl, by rw [show Wd.inn a (-b) n 0 = 0 from rfl, Int.add_zero]; exact HM⟩
      case round =>
        clear HM
        obtain ⟨m, hm, rfl, HM⟩ := hrel
        by_cases hmt : m < 2
        · have hmt' : (m : Int) < 2 := by omega
          have g0 := HM.out.2.2.2.2.2.1.cell n (by omega)
          have g1 := HM.out.2.2.2.2.2.2.1.cell m (by omega)
          have hp := Wd.prod_lt _ _ (Wd.dg_lt n a) (Wd.dg_lt m (-b))
          have HQ := Lib.hid (sr_two (n + m) (Wd.dg n a * Wd.dg m (-b)) (by omega) hp.1 hp.2)
          have HT := Lib.hid (show Wd.inn a (-b) n (m + 1) = Wd.inn a (-b) n m + Wd.dg n a * Wd.dg m (-b) * Wd.P (n + m) from rfl)
          have A := Lib.hid (fun w => radd (Wd.out a (-b) n + Wd.inn a (-b) n m) (Wd.dg n a * Wd.dg m (-b) * Wd.P (n + m)) (Wd.out a (-b) n + Wd.inn a (-b) n (m + 1)) w (by rw [HT.out]; omega))
          obtain ⟨hp0, hp1⟩ := hp
          clear HT
          have hn6 : (n : Int) < 6 := by omega
          have hm6 : (m : Int) < 6 := by omega
          go_wp2
          go_quiet (fail)
          have HM2 := Lib.hid (HM.out.later (below_drewN (Below.refl wr.heap.size wr) nq))
          clear HM g0 g1
          generalize wr.drewN nq = w5 at *
          generalize Wd.dg n a * Wd.dg m (-b) = p at *
          have hnm : (n : Int) + m < 6 := by omega
          have hnm0 : (0 : Int) ≤ (n : Int) + m := by omega
          have hnm1 : (n : Int) + m + 1 < 6 := by omega
          have l6 := list6 (n + m) (by omega)
          have l5 := list5 (n + m) (by omega)
          go_wp2_with (first
            | refine wpList_load_row rfl 43 (.tmp 7) rfl go rfl 43 (sr (Wd.out a (-b) n + Wd.inn a (-b) n m)) (0, 0) _ (HM2.out.later (up_new w5 _)).2.2.2.2.2.2.2 Try.underlying43 rfl (HI _).out ?_
            | refine wpList_load_row rfl 43 (.tmp 11) rfl w5.heap.size rfl 43 _ (0, 0) _ (Go.heap_alloc_last w5 _) Try.underlying43 rfl (by rw [HQ.out]; exact (HI _).out) ?_)
          rw [HQ.out]
          have HM3 := Lib.hid (HM2.out.later (up_new w5 (.cells (sr (p * Wd.P (n + m))) 43)))
          generalize w5.alloc (.cells (sr (p * Wd.P (n + m))) 43) = w6 at *
          ((with_reducible refine (A.out _).mono ?_); rintro e w7 ⟨rfl, b7⟩)
          have HM4 := Lib.hid (HM3.out.later b7)
          have HM5 := Lib.hid (HM4.out.put (Wd.out a (-b) n + Wd.inn a (-b) n (m + 1)))
          clear HM2 HM3 b7 l5 l6 hnm hnm0 hnm1 hn6 hm6 A HQ
          go_wp2_with (refine wpList_store_row rfl 43 (.tmp 7) (.tmp 54) rfl go (sr (Wd.out a (-b) n + Wd.inn a (-b) n (m + 1))) rfl rfl 43 _ HM4.out.2.2.2.2.2.2.2 (HI _).out (HQS _ _).out (HO _).out ?_)
          go_roundw
          case rel => exact ⟨m + 1, by omega, by go_num, HM5⟩
          case measure => simp [intOf]; omega
        · have hme : m = 2 := by omega
          have hmt' : ¬ (m : Int) < 2 := by omega
          have HM2 : Hid (M4 w gx gy go a (-b) (Wd.out a (-b) (n + 1)) wr) := Lib.hid (by have := HM.out; rw [hme] at this; exact this)
          clear HM hme
          go_wp2
          go_roundw
          case rel => exact ⟨n + 1, by omega, by go_num, HM2⟩
          case measure => simp [intOf]; omega
    · have hlt' : ¬ (n : Int) < 2 := by omega
      have hne : n = 2 := by omega
      have HM2 : Hid (M4 w gx gy go a (-b) (a * (-b)) wr) := Lib.hid (by have := HM.out; rw [hne, HX.out] at this; exact this)
      clear HM hne
      have HE : Hid (-(a * (-b)) = a * b) := Lib.hid (by rw [Int.mul_neg, Int.neg_neg])
      go_wp2_with (refine wpList_load_row rfl 43 (.tmp 7) rfl go rfl 43 (sr (a * (-b))) (0, 0) _ HM2.out.2.2.2.2.2.2.2 Try.underlying43 rfl (HI _).out ?_)
      ((with_reducible refine (N.out (a * (-b)) _).mono ?_); rintro e w8 ⟨rfl, b8⟩)
      rw [HE.out]
      have HM3 := Lib.hid (HM2.out.later b8)
      have R2 := Lib.hid (HM3.out.2.2.2.2.1.row (sr (a * b)))
      have B2 := Lib.hid (Below.setRow' HM3.out.2.2.2.1 (g := w.heap.size) (Nat.le_refl _) (sr (a * b)))
      clear HM2 b8
      go_wp2_with (refine wpList_store_row rfl 43 (.tmp 4) (.tmp 61) rfl w.heap.size (sr (a * b)) rfl rfl 43 z6 HM3.out.2.2.2.2.1 (HI _).out (HZ _).out (HO _).out ?_)
      (try simp only [Exit.inBlock, Exit.then])
      refine bodyPost_ret (v := .agg (sr (a * b))) ?_ rfl ⟨rfl, B2.out⟩
      exact results_cell_row rfl _ _ w.heap.size 43 _ _ _ rfl R2.out Try.underlying43 rfl (HI _).out
set_option maxHeartbeats 8000000 in
set_option maxRecDepth 100000 in
theorem rmul_nn (a b : Int) (w : World) (a0 : -9223372036854775808 ≤ a) (a1 : a ≤ 9223372036854775807) (b0 : -9223372036854775808 ≤ b) (b1 : b ≤ 9223372036854775807) (ha : a < 0) (hb : b < 0) :
    Calls Try.prog 26 #[.int .i64 a, .int .i64 b] w fun e w' => e = .returned (.agg (sr (a * b))) ∧ Below w.heap.size w w' := by
  have c0 := Lib.hid (fun w => sixOf a w a0 a1)
  have c1 := Lib.hid (fun w => sixOf b w b0 b1)
  have N := Lib.hid (fun x w => rneg x (-x) w rfl)
  have HI := fun z => Lib.hid (six_info (sr z) (sr_size z))
  have HZ := fun z => Lib.hid (show z6.size = (sr z).size by rw [sr_size]; rfl)
  have HQS := fun z y => Lib.hid (show (sr y).size = (sr z).size by rw [sr_size, sr_size])
  have HO := fun z => Lib.hid (sr_one z)
  have HX : Hid (Wd.out (-a) (-b) 2 = (-a) * (-b)) := Lib.hid (Wd.out_two _ _ (by omega) (by omega) (by omega) (by omega))
  clear a0 a1 b0 b1
  have hd : (decide (a < 0) == decide (b < 0)) = true := by simp [ha, hb]
  have hda : decide (a < 0) = true := by simp [ha]
  have hdb : decide (b < 0) = true := by simp [hb]
  go_enter Try.func26, Try.ntmps26
  go_wp2_with fail
  ((with_reducible refine (c0.out _).mono ?_); rintro e w1 ⟨rfl, b1⟩)
  have B1 := Lib.hid b1
  clear b1
  go_wp2_with fail
  ((with_reducible refine (c1.out _).mono ?_); rintro e w2 ⟨rfl, b2⟩)
  have HS := Lib.hid (M3.start a b B1.out b2)
  clear b2 B1 c0 c1
  generalize hgx : w2.heap.size = gx at *
  generalize hgy : gx + 1 = gy at *
  have K1 := Lib.hid HS.out.2.2
  unfold z6 at K1
  go_wp2_with (first
    | refine wpList_store_row rfl 43 (.tmp 5) (.tmp 13) rfl gx (sr a) rfl rfl 43 z6 HS.out.1 (HI a).out (HZ a).out (HO a).out ?_
    | refine wpList_store_row rfl 43 (.tmp 6) (.tmp 15) rfl gy (sr b) rfl rfl 43 z6 HS.out.2.1 (HI b).out (HZ b).out (HO b).out ?_
    | refine wpList_load_row rfl 43 (.tmp 5) rfl gx rfl 43 (sr a) (0, 0) _ K1.out.2.2.2.2.2.1 Try.underlying43 rfl (HI a).out ?_)
  have L1 := Lib.hid K1.out
  generalize (((w2.alloc (.cells #[.int .u64 0, .int .u64 0, .int .u64 0, .int .u64 0, .int .u64 0, .int .u64 0] 43)).alloc (.cells #[.int .u64 0, .int .u64 0, .int .u64 0, .int .u64 0, .int .u64 0, .int .u64 0] 43)).setRow gx (sr a)).setRow gy (sr b) = v1 at *
  ((with_reducible refine (N.out a _).mono ?_); rintro e u1 ⟨rfl, b1⟩)
  have J1 := Lib.hid (L1.out.later b1)
  clear L1 K1 b1
  clear HS
  have K2 := Lib.hid (J1.out.putx (-a))
  unfold z6 at K2
  go_wp2_with (first
    | refine wpList_store_row rfl 43 (.tmp 5) (.tmp 19) rfl gx (sr (-a)) rfl rfl 43 (sr a) J1.out.2.2.2.2.2.1 (HI _).out (HQS _ _).out (HO _).out ?_
    | refine wpList_load_row rfl 43 (.tmp 6) rfl gy rfl 43 (sr b) (0, 0) _ K2.out.2.2.2.2.2.2 Try.underlying43 rfl (HI b).out ?_)
  have L2 := Lib.hid K2.out
  generalize u1.setRow gx (sr (-a)) = v2 at *
  ((with_reducible refine (N.out b _).mono ?_); rintro e u2 ⟨rfl, b2⟩)
  have J2 := Lib.hid (L2.out.later b2)
  clear L2 K2 b2
  go_wp2_with (first
    | refine wpList_store_row rfl 43 (.tmp 6) (.tmp 23) rfl gy (sr (-b)) rfl rfl 43 (sr b) J2.out.2.2.2.2.2.2 (HI _).out (HQS _ _).out (HO _).out ?_)
  have HM := Lib.hid (M3.four (J2.out.puty (-b)))
  unfold z6 at HM
  (try rw [setRow_size] at HM)
  (try rw [setRow_size] at HM)
  (try rw [size2] at HM)
  (try rw [hgx] at HM)
  (try rw [hgy] at HM)
  obtain ⟨go, hgo⟩ : ∃ go, u2.heap.size = go := ⟨_, rfl⟩
  rw [hgo] at HM ⊢
  generalize (u2.setRow gy (sr (-b))).alloc (.cells #[.int .u64 0, .int .u64 0, .int .u64 0, .int .u64 0, .int .u64 0, .int .u64 0] 43) = W0 at *
  clear J2 N
  go_loopw [8] (fun i ww => ∃ n : Nat, n ≤ 2 ∧ i = .int .i64 n ∧ Hid (M4 w gx gy go (-a) (-b) (Wd.out (-a) (-b) n) ww)) (fun i _ => 2 - (intOf i).toNat)
  case atStart => exact ⟨0, by omega, rfl, HM⟩
  case round =>
    clear HM
    obtain ⟨n, hn, rfl, HM⟩ := hrel
    by_cases hlt : n < 2
    · have hlt' : (n : Int) < 2 := by omega
      go_wp2
      go_loopw [9] (fun i ww => ∃ m : Nat, m ≤ 2 ∧ i = .int .i64 m ∧ Hid (M4 w gx gy go (-a) (-b) (Wd.out (-a) (-b) n + Wd.inn (-a) (-b) n m) ww)) (fun i _ => 2 - (intOf i).toNat)
      case atStart => exact ⟨0, by omega, rfl, by rw [show Wd.inn (-a) (-b) n 0 = 0 from rfl, Int.add_zero]; exact HM⟩
      case round =>
        clear HM
        obtain ⟨m, hm, rfl, HM⟩ := hrel
        by_cases hmt : m < 2
        · have hmt' : (m : Int) < 2 := by omega
          have g0 := HM.out.2.2.2.2.2.1.cell n (by omega)
          have g1 := HM.out.2.2.2.2.2.2.1.cell m (by omega)
          have hp := Wd.prod_lt _ _ (Wd.dg_lt n (-a)) (Wd.dg_lt m (-b))
          have HQ := Lib.hid (sr_two (n + m) (Wd.dg n (-a) * Wd.dg m (-b)) (by omega) hp.1 hp.2)
          have HT := Lib.hid (show Wd.inn (-a) (-b) n (m + 1) = Wd.inn (-a) (-b) n m + Wd.dg n (-a) * Wd.dg m (-b) * Wd.P (n + m) from rfl)
          have A := Lib.hid (fun w => radd (Wd.out (-a) (-b) n + Wd.inn (-a) (-b) n m) (Wd.dg n (-a) * Wd.dg m (-b) * Wd.P (n + m)) (Wd.out (-a) (-b) n + Wd.inn (-a) (-b) n (m + 1)) w (by rw [HT.out]; omega))
          obtain ⟨hp0, hp1⟩ := hp
          clear HT
          have hn6 : (n : Int) < 6 := by omega
          have hm6 : (m : Int) < 6 := by omega
          go_wp2
          go_quiet (fail)
          have HM2 := Lib.hid (HM.out.later (below_drewN (Below.refl wr.heap.size wr) nq))
          clear HM g0 g1
          generalize wr.drewN nq = w5 at *
          generalize Wd.dg n (-a) * Wd.dg m (-b) = p at *
          have hnm : (n : Int) + m < 6 := by omega
          have hnm0 : (0 : Int) ≤ (n : Int) + m := by omega
          have hnm1 : (n : Int) + m + 1 < 6 := by omega
          have l6 := list6 (n + m) (by omega)
          have l5 := list5 (n + m) (by omega)
          go_wp2_with (first
            | refine wpList_load_row rfl 43 (.tmp 7) rfl go rfl 43 (sr (Wd.out (-a) (-b) n + Wd.inn (-a) (-b) n m)) (0, 0) _ (HM2.out.later (up_new w5 _)).2.2.2.2.2.2.2 Try.underlying43 rfl (HI _).out ?_
            | refine wpList_load_row rfl 43 (.tmp 11) rfl w5.heap.size rfl 43 _ (0, 0) _ (Go.heap_alloc_last w5 _) Try.underlying43 rfl (by rw [HQ.out]; exact (HI _).out) ?_)
          rw [HQ.out]
          have HM3 := Lib.hid (HM2.out.later (up_new w5 (.cells (sr (p * Wd.P (n + m))) 43)))
          generalize w5.alloc (.cells (sr (p * Wd.P (n + m))) 43) = w6 at *
          ((with_reducible refine (A.out _).mono ?_); rintro e w7 ⟨rfl, b7⟩)
          have HM4 := Lib.hid (HM3.out.later b7)
          have HM5 := Lib.hid (HM4.out.put (Wd.out (-a) (-b) n + Wd.inn (-a) (-b) n (m + 1)))
          clear HM2 HM3 b7 l5 l6 hnm hnm0 hnm1 hn6 hm6 A HQ
          go_wp2_with (refine wpList_store_row rfl 43 (.tmp 7) (.tmp 54) rfl go (sr (Wd.out (-a) (-b) n + Wd.inn (-a) (-b) n (m + 1))) rfl rfl 43 _ HM4.out.2.2.2.2.2.2.2 (HI _).out (HQS _ _).out (HO _).out ?_)
          go_roundw
          case rel => exact ⟨m + 1, by omega, by go_num, HM5⟩
          case measure => simp [intOf]; omega
        · have hme : m = 2 := by omega
          have hmt' : ¬ (m : Int) < 2 := by omega
          have HM2 : Hid (M4 w gx gy go (-a) (-b) (Wd.out (-a) (-b) (n + 1)) wr) := Lib.hid (by have := HM.out; rw [hme] at this; exact this)
          clear HM hme
          go_wp2
          go_roundw
          case rel => exact ⟨n + 1, by omega, by go_num, HM2⟩
          case measure => simp [intOf]; omega
    · have hlt' : ¬ (n : Int) < 2 := by omega
      have hne : n = 2 := by omega
      have HM2 : Hid (M4 w gx gy go (-a) (-b) ((-a) * (-b)) wr) := Lib.hid (by have := HM.out; rw [hne, HX.out] at this; exact this)
      clear HM hne
      have HE : Hid ((-a) * (-b) = a * b) := Lib.hid (Int.neg_mul_neg a b)
      rw [HE.out] at HM2
      have R2 := Lib.hid (HM2.out.2.2.2.2.1.row (sr (a * b)))
      have B2 := Lib.hid (Below.setRow' HM2.out.2.2.2.1 (g := w.heap.size) (Nat.le_refl _) (sr (a * b)))
      go_wp2_with (first
        | refine wpList_load_row rfl 43 (.tmp 7) rfl go rfl 43 (sr (a * b)) (0, 0) _ HM2.out.2.2.2.2.2.2.2 Try.underlying43 rfl (HI _).out ?_
        | refine wpList_store_row rfl 43 (.tmp 4) (.tmp 62) rfl w.heap.size (sr (a * b)) rfl rfl 43 z6 HM2.out.2.2.2.2.1 (HI _).out (HZ _).out (HO _).out ?_)
      (try simp only [Exit.inBlock, Exit.then])
      refine bodyPost_ret (v := .agg (sr (a * b))) ?_ rfl ⟨rfl, B2.out⟩
      exact results_cell_row rfl _ _ w.heap.size 43 _ _ _ rfl R2.out Try.underlying43 rfl (HI _).out
theorem rmul (a b : Int) (w : World) (a0 : -9223372036854775808 ≤ a) (a1 : a ≤ 9223372036854775807) (b0 : -9223372036854775808 ≤ b) (b1 : b ≤ 9223372036854775807) :
    Calls Try.prog 26 #[.int .i64 a, .int .i64 b] w fun e w' => e = .returned (.agg (sr (a * b))) ∧ Below w.heap.size w w' := by
  by_cases ha : a < 0
  · by_cases hb : b < 0
    · exact rmul_nn a b w a0 a1 b0 b1 ha hb
    · exact rmul_np a b w a0 a1 b0 b1 ha hb
  · by_cases hb : b < 0
    · exact rmul_pn a b w a0 a1 b0 b1 ha hb
    · exact rmul_pp a b w a0 a1 b0 b1 ha hb
end Go.Proofs.Ythlhfnafgjecaaa
