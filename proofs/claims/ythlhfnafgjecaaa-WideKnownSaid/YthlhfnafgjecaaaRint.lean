/- The reference's Int, Of, Plus, Minus, Times. -/
import Derived.Test.YthlhfnafgjecaaaRcmp
import Derived.Test.YthlhfnafgjecaaaCheck
import Derived.Deep.RegionHeld3
namespace Go.Proofs.Ythlhfnafgjecaaa
open Go.RowKit
set_option linter.unusedVariables false

theorem rof (n : Int) (w : World) (h0 : -9223372036854775808 ≤ n) (h1 : n ≤ 9223372036854775807) :
    Calls Try.prog 24 #[.int .i64 n] w fun e w' => e = .returned (.agg (sr n)) ∧ Below w.heap.size w w' := by
  have C := fun w => sixOf n w h0 h1
  have HA := Lib.hid (L6.last w z6)
  unfold z6 at HA
  have HI := Lib.hid (six_info (sr n) (sr_size n))
  clear h0 h1
  go_enter Try.func24, Try.ntmps24
  go_wp2_with fail
  have hb := up_new w (.cells #[.int .u64 0, .int .u64 0, .int .u64 0, .int .u64 0, .int .u64 0, .int .u64 0] 43)
  ((with_reducible refine (C _).mono ?_); rintro e w1 ⟨rfl, b1⟩)
  have R1 := Lib.hid (HA.out.later b1)
  have B2 := Lib.hid (Below.setRow' (up hb b1) (g := w.heap.size) (Nat.le_refl _) (sr n))
  have R2 := Lib.hid (R1.out.row (sr n))
  clear HA hb b1
  go_wp2_with (refine wpList_store_row rfl 43 (.tmp 2) (.tmp 4) rfl w.heap.size (sr n) rfl rfl 43 _ R1.out HI.out (by rw [sr_size]; rfl) (sr_one n) ?_)
  (try simp only [Exit.inBlock, Exit.then])
  refine bodyPost_ret (v := .agg (sr n)) ?_ rfl ⟨rfl, B2.out⟩
  exact results_cell_row rfl _ _ w.heap.size 43 _ _ _ rfl R2.out Try.underlying43 rfl HI.out

/-- A variable of six that lies since W. -/
def L1 (w : World) (z : Int) (ww : World) : Prop := Below w.heap.size w ww ∧ L6 ww w.heap.size (sr z)
theorem L1.start (w : World) (z : Int) : L1 w z (w.alloc (.cells (sr z) 43)) := ⟨up_new w _, L6.last w _⟩
theorem L1.later {w ww w' : World} {z : Int} (h : L1 w z ww) (hb : Below ww.heap.size ww w') : L1 w z w' := ⟨up h.1 hb, h.2.later hb⟩
theorem sr_lit (z : Int) : #[Value.int .u64 (Wd.dg 0 z), .int .u64 (Wd.dg 1 z), .int .u64 (Wd.dg 2 z), .int .u64 (Wd.dg 3 z), .int .u64 (Wd.dg 4 z), .int .u64 (Wd.dg 5 z)] = sr z := by unfold sr; rfl
theorem L1.keep {w ww : World} {z : Int} (h : L1 w z ww) : L1 w z ww ∧ ww.cell? ⟨w.heap.size, 0, none⟩ = some (.int .u64 (Wd.dg 0 z)) ∧ ww.cell? ⟨w.heap.size, 1, none⟩ = some (.int .u64 (Wd.dg 1 z)) ∧ ww.cell? ⟨w.heap.size, 2, none⟩ = some (.int .u64 (Wd.dg 2 z)) ∧
    ww.cell? ⟨w.heap.size, 3, none⟩ = some (.int .u64 (Wd.dg 3 z)) ∧ ww.cell? ⟨w.heap.size, 4, none⟩ = some (.int .u64 (Wd.dg 4 z)) ∧ ww.cell? ⟨w.heap.size, 5, none⟩ = some (.int .u64 (Wd.dg 5 z)) :=
  ⟨h, h.2.cell 0 (by omega), h.2.cell 1 (by omega), h.2.cell 2 (by omega), h.2.cell 3 (by omega), h.2.cell 4 (by omega), h.2.cell 5 (by omega)⟩
set_option maxHeartbeats 4000000 in
set_option maxRecDepth 100000 in
theorem rint (z : Int) (w : World) (hz : Wd.Sg z) :
    Calls Try.prog 19 #[.agg (sr z)] w fun e w' => e = .returned (.tuple #[.int .i64 (Wd.ck z), .int .i64 (Wd.ce z)]) ∧ Below w.heap.size w w' := by
  have S0 := fun w => sixOf (-9223372036854775808) w (by omega) (by omega)
  have S1 := fun w => sixOf 9223372036854775807 w (by omega) (by omega)
  have H0 := Lib.hid (L1.start w z)
  by_cases h1 : z < -9223372036854775808
  · have hf : ¬ Wd.F64 z := by unfold Wd.F64; omega
    rw [Wd.ck_no z hf, Wd.ce_no z hf]
    have C := fun w => rcompare z (-9223372036854775808) (-1) w hz (by unfold Wd.Sg; omega) (Wd.cmp_lt _ _ h1)
    rw [← sr_lit] at C
    clear hf h1
    go_enter Try.func19, Try.ntmps19
    go_wp2_with fail
    generalize w.alloc (.cells (sr z) 43) = W0 at *
    have HD := Lib.hid (L1.later H0.out (Below.refl _ _).drew)
    obtain ⟨_, q0, q1, q2, q3, q4, q5⟩ := L1.keep HD.out
    go_region_with (first
        | (go_at_call 32; (with_reducible refine (S0 _).mono ?_); rintro e w1 ⟨rfl, b1⟩; have H1 := Lib.hid (L1.later HD.out b1); obtain ⟨_, q6, q7, q8, q9, q10, q11⟩ := L1.keep H1.out)
        | (go_at_call 22; (with_reducible refine (C _).mono ?_); rintro e w2 ⟨rfl, b2⟩; have H2 := Lib.hid (L1.later H1.out b2)))
    all_goals
      clear HD H1 H0 S0 S1 C q0 q1 q2 q3 q4 q5 b1 b2
      go_wp2
      go_ret2
      exact ⟨rfl, H2.out.1⟩
  · by_cases h2 : 9223372036854775807 < z
    · have hf : ¬ Wd.F64 z := by unfold Wd.F64; omega
      rw [Wd.ck_no z hf, Wd.ce_no z hf]
      obtain ⟨c, hc⟩ : ∃ c, Wd.cmp z (-9223372036854775808) = c := ⟨_, rfl⟩
      have hcn : ¬ c < 0 := by rw [← hc]; unfold Wd.cmp; rw [if_neg h1]; split <;> omega
      have hcd : decide (c < 0) = false := decide_eq_false hcn
      have C := fun w => rcompare z (-9223372036854775808) c w hz (by unfold Wd.Sg; omega) hc
      have D := fun w => rcompare z 9223372036854775807 1 w hz (by unfold Wd.Sg; omega) (Wd.cmp_gt _ _ h2)
      rw [← sr_lit z] at C D
      clear hf h1 h2 hc hz
      go_enter Try.func19, Try.ntmps19
      go_wp2_with fail
      generalize w.alloc (.cells (sr z) 43) = W0 at *
      go_region_held3 (fun w' => L1 w z w' ∧ w'.cell? ⟨w.heap.size, 0, none⟩ = some (.int .u64 (Wd.dg 0 z)) ∧ w'.cell? ⟨w.heap.size, 1, none⟩ = some (.int .u64 (Wd.dg 1 z)) ∧ w'.cell? ⟨w.heap.size, 2, none⟩ = some (.int .u64 (Wd.dg 2 z)) ∧
          w'.cell? ⟨w.heap.size, 3, none⟩ = some (.int .u64 (Wd.dg 3 z)) ∧ w'.cell? ⟨w.heap.size, 4, none⟩ = some (.int .u64 (Wd.dg 4 z)) ∧ w'.cell? ⟨w.heap.size, 5, none⟩ = some (.int .u64 (Wd.dg 5 z)))
        (first | exact L1.keep H0.out | exact L1.keep (L1.later H0.out ((Below.refl _ _).drew)) | exact L1.keep (L1.later (And.left (by assumption)) (by assumption)))
        (first
          | (go_at_call 32; (with_reducible refine (S0 _).mono ?_); rintro e w1 ⟨rfl, b1⟩)
          | (go_at_call 22; (with_reducible refine (C _).mono ?_); rintro e w2 ⟨rfl, b2⟩)
          | (go_at_call 32; (with_reducible refine (S1 _).mono ?_); rintro e w3 ⟨rfl, b3⟩)
          | (go_at_call 22; (with_reducible refine (D _).mono ?_); rintro e w4 ⟨rfl, b4⟩))
      have HB := Lib.hid (L1.later (L1.later (L1.later (L1.later (L1.later H0.out (Below.refl _ _).drew) b1) b2) b3) b4)
      clear S0 S1 C D H0 b1 b2 b3 b4
      go_wp2
      go_ret2
      exact ⟨rfl, HB.out.1⟩
    · have hf : Wd.F64 z := by unfold Wd.F64; omega
      rw [Wd.ck_yes z hf, Wd.ce_yes z hf]
      obtain ⟨c, hc⟩ : ∃ c, Wd.cmp z (-9223372036854775808) = c := ⟨_, rfl⟩
      have hcn : ¬ c < 0 := by rw [← hc]; unfold Wd.cmp; rw [if_neg h1]; split <;> omega
      have hcd : decide (c < 0) = false := decide_eq_false hcn
      obtain ⟨d, hd⟩ : ∃ d, Wd.cmp z 9223372036854775807 = d := ⟨_, rfl⟩
      have hdn : ¬ 0 < d := by rw [← hd]; unfold Wd.cmp; rw [if_neg h2]; split <;> omega
      have hdd : decide (0 < d) = false := decide_eq_false hdn
      have C := fun w => rcompare z (-9223372036854775808) c w hz (by unfold Wd.Sg; omega) hc
      have D := fun w => rcompare z 9223372036854775807 d w hz (by unfold Wd.Sg; omega) hd
      have HV : Hid (wrap64 (Wd.dg 0 z + 4294967296 * Wd.dg 1 z) = z) := Lib.hid (by
        unfold Wd.F64 at hf
        simp only [Wd.dg, Wd.P]
        unfold wrap64
        omega)
      have d0 := Wd.dg_lt 0 z
      have d1 := Wd.dg_lt 1 z
      obtain ⟨d00, d01⟩ := d0
      obtain ⟨d10, d11⟩ := d1
      rw [← sr_lit z] at C D
      clear hf h1 h2 hc hd hz
      go_enter Try.func19, Try.ntmps19
      go_wp2_with fail
      generalize w.alloc (.cells (sr z) 43) = W0 at *
      go_region_held3 (fun w' => L1 w z w' ∧ w'.cell? ⟨w.heap.size, 0, none⟩ = some (.int .u64 (Wd.dg 0 z)) ∧ w'.cell? ⟨w.heap.size, 1, none⟩ = some (.int .u64 (Wd.dg 1 z)) ∧ w'.cell? ⟨w.heap.size, 2, none⟩ = some (.int .u64 (Wd.dg 2 z)) ∧
          w'.cell? ⟨w.heap.size, 3, none⟩ = some (.int .u64 (Wd.dg 3 z)) ∧ w'.cell? ⟨w.heap.size, 4, none⟩ = some (.int .u64 (Wd.dg 4 z)) ∧ w'.cell? ⟨w.heap.size, 5, none⟩ = some (.int .u64 (Wd.dg 5 z)))
        (first | exact L1.keep H0.out | exact L1.keep (L1.later H0.out ((Below.refl _ _).drew)) | exact L1.keep (L1.later (And.left (by assumption)) (by assumption)))
        (first
          | (go_at_call 32; (with_reducible refine (S0 _).mono ?_); rintro e w1 ⟨rfl, b1⟩)
          | (go_at_call 22; (with_reducible refine (C _).mono ?_); rintro e w2 ⟨rfl, b2⟩)
          | (go_at_call 32; (with_reducible refine (S1 _).mono ?_); rintro e w3 ⟨rfl, b3⟩)
          | (go_at_call 22; (with_reducible refine (D _).mono ?_); rintro e w4 ⟨rfl, b4⟩))
      have HB := Lib.hid (L1.later (L1.later (L1.later (L1.later (L1.later H0.out (Below.refl _ _).drew) b1) b2) b3) b4)
      clear S0 S1 C D H0 b1 b2 b3 b4
      obtain ⟨_, q0, q1, _, _, _, _⟩ := L1.keep HB.out
      clear hcn hcd hdn hdd
      have e0 : 0 ≤ Wd.dg 0 z + 4294967296 * Wd.dg 1 z := by omega
      have e1 : Wd.dg 0 z + 4294967296 * Wd.dg 1 z < 18446744073709551616 := by omega
      have e2 : 4294967296 * Wd.dg 1 z < 18446744073709551616 := by omega
      have e3 : 0 ≤ 4294967296 * Wd.dg 1 z := by omega
      go_wp2
      go_ret2
      exact ⟨congrArg (fun q => Ending.returned (.tuple #[.int .i64 q, .int .i64 0])) HV.out, HB.out.1⟩

set_option maxHeartbeats 1000000 in
theorem rplus (a b : Int) (w : World) (a0 : -9223372036854775808 ≤ a) (a1 : a ≤ 9223372036854775807) (b0 : -9223372036854775808 ≤ b) (b1 : b ≤ 9223372036854775807) :
    Calls Try.prog 13 #[.int .i64 a, .int .i64 b] w fun e w' => e = .returned (.tuple #[.int .i64 (Wd.ck (a + b)), .int .i64 (Wd.ce (a + b))]) ∧ Below w.heap.size w w' := by
  have c0 := fun w => sixOf a w a0 a1
  have c1 := fun w => sixOf b w b0 b1
  have c2 := fun w => radd a b _ w rfl
  have c3 := fun w => rint (a + b) w (by unfold Wd.Sg; omega)
  clear a0 a1 b0 b1
  generalize a + b = z at *
  go_enter Try.func13, Try.ntmps13
  go_wp2_with fail
  ((with_reducible refine (c0 _).mono ?_); rintro e w1 ⟨rfl, b1⟩)
  go_wp2_with fail
  ((with_reducible refine (c1 _).mono ?_); rintro e w2 ⟨rfl, b2⟩)
  have B2 := up b1 b2
  clear b1 b2
  go_wp2_with fail
  ((with_reducible refine (c2 _).mono ?_); rintro e w3 ⟨rfl, b3⟩)
  have B3 := up B2 b3
  clear B2 b3
  go_wp2_with fail
  ((with_reducible refine (c3 _).mono ?_); rintro e w4 ⟨rfl, b4⟩)
  have B4 := up B3 b4
  clear B3 b4
  go_wp2
  go_ret2
  exact ⟨rfl, B4⟩
set_option maxHeartbeats 1000000 in
theorem rminus (a b : Int) (w : World) (a0 : -9223372036854775808 ≤ a) (a1 : a ≤ 9223372036854775807) (b0 : -9223372036854775808 ≤ b) (b1 : b ≤ 9223372036854775807) :
    Calls Try.prog 15 #[.int .i64 a, .int .i64 b] w fun e w' => e = .returned (.tuple #[.int .i64 (Wd.ck (a - b)), .int .i64 (Wd.ce (a - b))]) ∧ Below w.heap.size w w' := by
  have c0 := fun w => sixOf a w a0 a1
  have c1 := fun w => sixOf b w b0 b1
  have c2 := fun w => rneg b _ w rfl
  have c3 := fun w => radd a (-b) (a - b) w (by omega)
  have c4 := fun w => rint (a - b) w (by unfold Wd.Sg; omega)
  clear a0 a1 b0 b1
  generalize a - b = z at *
  go_enter Try.func15, Try.ntmps15
  go_wp2_with fail
  ((with_reducible refine (c0 _).mono ?_); rintro e w1 ⟨rfl, b1⟩)
  go_wp2_with fail
  ((with_reducible refine (c1 _).mono ?_); rintro e w2 ⟨rfl, b2⟩)
  have B2 := up b1 b2
  clear b1 b2
  go_wp2_with fail
  ((with_reducible refine (c2 _).mono ?_); rintro e w3 ⟨rfl, b3⟩)
  have B3 := up B2 b3
  clear B2 b3
  go_wp2_with fail
  ((with_reducible refine (c3 _).mono ?_); rintro e w4 ⟨rfl, b4⟩)
  have B4 := up B3 b4
  clear B3 b4
  go_wp2_with fail
  ((with_reducible refine (c4 _).mono ?_); rintro e w5 ⟨rfl, b5⟩)
  have B5 := up B4 b5
  clear B4 b5
  go_wp2
  go_ret2
  exact ⟨rfl, B5⟩
set_option maxHeartbeats 1000000 in
theorem rtimes (a b : Int) (w : World) (a0 : -9223372036854775808 ≤ a) (a1 : a ≤ 9223372036854775807) (b0 : -9223372036854775808 ≤ b) (b1 : b ≤ 9223372036854775807) :
    Calls Try.prog 17 #[.int .i64 a, .int .i64 b] w fun e w' => e = .returned (.tuple #[.int .i64 (Wd.ck (a * b)), .int .i64 (Wd.ce (a * b))]) ∧ Below w.heap.size w w' := by
  have hs := mul_sg a b a0 a1 b0 b1
  have c0 := fun w => rmul a b w a0 a1 b0 b1
  have c1 := fun w => rint (a * b) w (by unfold Wd.Sg; omega)
  clear a0 a1 b0 b1 hs
  generalize a * b = z at *
  go_enter Try.func17, Try.ntmps17
  go_wp2_with fail
  ((with_reducible refine (c0 _).mono ?_); rintro e w1 ⟨rfl, b1⟩)
  go_wp2_with fail
  ((with_reducible refine (c1 _).mono ?_); rintro e w2 ⟨rfl, b2⟩)
  have B2 := up b1 b2
  clear b1 b2
  go_wp2
  go_ret2
  exact ⟨rfl, B2⟩
end Go.Proofs.Ythlhfnafgjecaaa
