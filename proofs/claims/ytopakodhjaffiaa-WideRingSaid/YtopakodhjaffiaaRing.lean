/- The walk of WideRing. -/
import Derived.Test.YtopakodhjaffiaaGroup
import Derived.Deep.QuietTactic
import Derived.BigQuiet
import Derived.Deep.DeepCutAuto
namespace Go.Proofs.Ytopakodhjaffiaa
open Go.RowKit
set_option linter.unusedVariables false

/-- One such variable, since W. -/
def V1 (W : World) (d : Nat) (s : Int) (w : World) : Prop := Below W.heap.size W w ∧ VW w d s
theorem V1.later {W w w' : World} {d : Nat} {s : Int} (h : V1 W d s w) (hb : Below w.heap.size w w') : V1 W d s w' := ⟨up h.1 hb, h.2.later hb⟩
theorem V1.keep {W w : World} {d : Nat} {s : Int} (h : V1 W d s w) : V1 W d s w ∧ (w.cell? ⟨d, 0, none⟩ = some (.int .u64 (Wd.lo s)) ∧ w.cell? ⟨d, 1, none⟩ = some (.int .u64 (Wd.mi s)) ∧ w.cell? ⟨d, 2, none⟩ = some (.int .u64 (Wd.hi s))) := ⟨h, h.2.lie⟩
/-- The sign of a product. -/
theorem sign_mul (a b : Int) : (a = 0 → Wd.cmp (a * b) 0 = 0) ∧ (b = 0 → Wd.cmp (a * b) 0 = 0) ∧ (0 < a → 0 < b → Wd.cmp (a * b) 0 = 1) ∧ (a < 0 → b < 0 → Wd.cmp (a * b) 0 = 1) ∧ (0 < a → b < 0 → Wd.cmp (a * b) 0 = -1) ∧ (a < 0 → 0 < b → Wd.cmp (a * b) 0 = -1) := by
  refine ⟨fun h => ?_, fun h => ?_, fun h k => ?_, fun h k => ?_, fun h k => ?_, fun h k => ?_⟩
  · rw [h, Int.zero_mul, Wd.cmp_eq]
  · rw [h, Int.mul_zero, Wd.cmp_eq]
  · exact Wd.cmp_gt _ _ (Int.mul_pos h k)
  · exact Wd.cmp_gt _ _ (Int.mul_pos_of_neg_of_neg h k)
  · exact Wd.cmp_lt _ _ (Int.mul_neg_of_pos_of_neg h k)
  · exact Wd.cmp_lt _ _ (Int.mul_neg_of_neg_of_pos h k)
set_option maxHeartbeats 16000000 in
set_option maxRecDepth 100000 in
theorem ring_at (a b c g : Int) (w : World) (a0 : -9223372036854775808 ≤ a) (a1 : a ≤ 9223372036854775807) (b0 : -9223372036854775808 ≤ b) (b1 : b ≤ 9223372036854775807) (k0 : -9223372036854775808 ≤ c) (k1 : c ≤ 9223372036854775807)
    (hg : Wd.cmp (a * b) 0 = g) (hs : (a = 0 ∧ g = 0) ∨ (0 < a ∧ b = 0 ∧ g = 0) ∨ (0 < a ∧ 0 < b ∧ g = 1) ∨ (0 < a ∧ b < 0 ∧ g = -1) ∨ (a < 0 ∧ b = 0 ∧ g = 0) ∨ (a < 0 ∧ 0 < b ∧ g = -1) ∨ (a < 0 ∧ b < 0 ∧ g = 1)) :
    Calls Try.prog 7 #[.int .i64 a, .int .i64 b, .int .i64 c] w fun e w' => e = .returned (.bool true) ∧ Below w.heap.size w w' := by
  have hm := mul_sg a b a0 a1 b0 b1
  have c0 := Lib.hid (fun w => mul_is a b (wv (a * b)) w a0 a1 b0 b1 rfl)
  have c1 := Lib.hid (fun w => mul_is b a (wv (a * b)) w b0 b1 a0 a1 (by rw [Int.mul_comm]))
  have c2 := Lib.hid (fun w => mul_is a 1 (wv a) w a0 a1 (by omega) (by omega) (by rw [Int.mul_one]))
  have c3 := Lib.hid (fun w => of_ a w a0 a1)
  have c4 := Lib.hid (fun w => mul_is a 0 (wv 0) w a0 a1 (by omega) (by omega) (by rw [Int.mul_zero]))
  have c5 := Lib.hid (fun w => of_ 0 w (by omega) (by omega))
  have c6 := Lib.hid (fun w => compare (a * b) 0 g w (by unfold Wd.Sg; omega) (by unfold Wd.Sg; omega) hg)
  have c7 := Lib.hid (fun w => plus b c w b0 b1 k0 k1)
  have c8 := Lib.hid (fun (h : Wd.F64 (b + c)) w => mul a (b + c) w a0 a1 h.1 h.2)
  have c9 := Lib.hid (fun w => mul a c w a0 a1 k0 k1)
  have c10 := Lib.hid (fun w => add_is (a * b) (a * c) (a * (b + c)) w (Int.mul_add a b c).symm)
  have c11 := Lib.hid (fun w => times a b w a0 a1 b0 b1)
  have c12 := Lib.hid (fun w => int_ (a * b) w (by unfold Wd.Sg; omega))
  clear a0 a1 b0 b1 k0 k1 hm hg
  unfold wv wr at *
  generalize a * b = p at *
  generalize a * c = q at *
  generalize a * (b + c) = r at *
  go_enter Try.func7, Try.ntmps7
  go_wp2_with fail
  ((with_reducible refine (c0.out _).mono ?_); rintro e w1 ⟨rfl, b1⟩)
  have H0 : Hid (V1 w w1.heap.size p (w1.alloc (.cells #[.int .u64 (Wd.lo p), .int .u64 (Wd.mi p), .int .u64 (Wd.hi p)] 24))) := Lib.hid ⟨up b1 (up_new _ _), VW.last w1 p⟩
  clear b1 c0
  go_wp2_with fail
  generalize w1.alloc (.cells #[.int .u64 (Wd.lo p), .int .u64 (Wd.mi p), .int .u64 (Wd.hi p)] 24) = W0 at *
  generalize w1.heap.size = gs at *
  go_region_held3 (fun w' => V1 w gs p w' ∧ (w'.cell? ⟨gs, 0, none⟩ = some (.int .u64 (Wd.lo p)) ∧ w'.cell? ⟨gs, 1, none⟩ = some (.int .u64 (Wd.mi p)) ∧ w'.cell? ⟨gs, 2, none⟩ = some (.int .u64 (Wd.hi p))))
    (first | exact V1.keep H0.out | exact V1.keep (V1.later H0.out ((Below.refl _ _).drew)) | exact V1.keep (V1.later (And.left (by assumption)) (by assumption)))
    (first
      | (go_at_call 19; (with_reducible refine (c1.out _).mono ?_); rintro e w2 ⟨rfl, b2⟩)
      | (go_at_call 19; (with_reducible refine (c2.out _).mono ?_); rintro e w2 ⟨rfl, b2⟩)
      | (go_at_call 19; (with_reducible refine (c4.out _).mono ?_); rintro e w2 ⟨rfl, b2⟩)
      | (go_at_call 17; (with_reducible refine (c3.out _).mono ?_); rintro e w2 ⟨rfl, b2⟩)
      | (go_at_call 17; (with_reducible refine (c5.out _).mono ?_); rintro e w2 ⟨rfl, b2⟩))
  have H1 := Lib.hid (And.left (by assumption : V1 w gs p _ ∧ _))
  clear H0 c1 c2 c3 c4
  go_wp2_with fail
  go_region_held3 (fun w' => V1 w gs p w' ∧ (w'.cell? ⟨gs, 0, none⟩ = some (.int .u64 (Wd.lo p)) ∧ w'.cell? ⟨gs, 1, none⟩ = some (.int .u64 (Wd.mi p)) ∧ w'.cell? ⟨gs, 2, none⟩ = some (.int .u64 (Wd.hi p))))
    (first | exact V1.keep H1.out | exact V1.keep (V1.later H1.out ((Below.refl _ _).drew)) | exact V1.keep (V1.later (And.left (by assumption)) (by assumption)))
    (first
      | (go_at_call 17; (with_reducible refine (c5.out _).mono ?_); rintro e w2 ⟨rfl, b2⟩)
      | (go_at_call 15; (with_reducible refine (c6.out _).mono ?_); rintro e w2 ⟨rfl, b2⟩))
  have H2 := Lib.hid (And.left (by assumption : V1 w gs p _ ∧ _))
  clear H1 c5 c6
  go_upto_region 5 with fail
  go_cut [66] (fun s66 wx => s66 = .bool false ∧ Hid (V1 w gs p wx))
  case first =>
    rcases hs with ⟨rfl, rfl⟩ | ⟨h1, rfl, rfl⟩ | ⟨h1, h2, rfl⟩ | ⟨h1, h2, rfl⟩ | ⟨h1, rfl, rfl⟩ | ⟨h1, h2, rfl⟩ | ⟨h1, h2, rfl⟩
    all_goals
      (try have n1 : ¬ a = 0 := by omega)
      (try have n2 : ((a : Int) == 0) = false := by simpa using n1)
      (try have n3 : ¬ b = 0 := by omega)
      (try have n4 : ((b : Int) == 0) = false := by simpa using n3)
      (try have n5 : ¬ 0 < a := by omega)
      (try have n6 : ¬ a < 0 := by omega)
      (try have n7 : ¬ 0 < b := by omega)
      (try have n8 : ¬ b < 0 := by omega)
      go_wp2_with fail
      go_meet
      exact ⟨rfl, H2⟩
  case rest =>
  obtain ⟨rfl, H3⟩ := hcut
  clear H2 hs
  by_cases hf : Wd.F64 (b + c)
  · have c8 := c8.out hf
    have y1 := Wd.ck_yes _ hf
    have y2 := Wd.ce_yes _ hf
    rw [y1, y2] at c7
    clear y1 y2 hf
    generalize b + c = sbc at *
    go_wp2_with fail
    ((with_reducible refine (c7.out _).mono ?_); rintro e w3 ⟨rfl, b3⟩)
    have H4 := Lib.hid (H3.out.later b3)
    clear b3 H3 c7
    go_wp2_with fail
    go_region_held3 (fun w' => V1 w gs p w' ∧ (w'.cell? ⟨gs, 0, none⟩ = some (.int .u64 (Wd.lo p)) ∧ w'.cell? ⟨gs, 1, none⟩ = some (.int .u64 (Wd.mi p)) ∧ w'.cell? ⟨gs, 2, none⟩ = some (.int .u64 (Wd.hi p))))
      (first | exact V1.keep H4.out | exact V1.keep (V1.later H4.out ((Below.refl _ _).drew)) | exact V1.keep (V1.later (And.left (by assumption)) (by assumption)))
      (first
        | (go_at_call 19; (with_reducible refine (c8 _).mono ?_); rintro e w4 ⟨rfl, b4⟩)
        | (go_at_call 19; (with_reducible refine (c9.out _).mono ?_); rintro e w4 ⟨rfl, b4⟩)
        | (go_at_call 21; (with_reducible refine (c10.out _).mono ?_); rintro e w4 ⟨rfl, b4⟩))
    have H5 := Lib.hid (And.left (by assumption : V1 w gs p _ ∧ _))
    clear H4 c8 c9 c10
    go_wp2_with fail
    ((with_reducible refine (c11.out _).mono ?_); rintro e w6 ⟨rfl, b6⟩)
    have H6 := Lib.hid (H5.out.later b6)
    obtain ⟨p0, p1, p2⟩ := H6.out.2.lie
    clear b6 H5 c11
    go_wp2_with fail
    ((with_reducible refine (c12.out _).mono ?_); rintro e w7 ⟨rfl, b7⟩)
    have H7 := Lib.hid (H6.out.later b7)
    clear b7 p0 p1 p2 H6 c12
    go_wp2_with fail
    ((with_reducible refine (works _).mono ?_); rintro e w8 ⟨rfl, b8⟩)
    have H8 := Lib.hid (H7.out.later b8)
    clear b8 H7
    go_wp2
    go_ret
    exact ⟨rfl, H8.out.1⟩
  · have hne : Wd.ce (b + c) = 50 := Wd.ce_no _ hf
    rw [hne] at c7
    generalize Wd.ck (b + c) = kk at *
    clear hne hf c8
    go_wp2_with fail
    ((with_reducible refine (c7.out _).mono ?_); rintro e w3 ⟨rfl, b3⟩)
    have H4 := Lib.hid (H3.out.later b3)
    clear b3 H3 c7
    go_wp2_with fail
    go_quiet (fail)
    have H5 := Lib.hid (V1.later H4.out (below_drewN (Below.refl _ _) nq))
    clear H4 c9 c10
    generalize w3.drewN nq = w5 at *
    go_wp2_with fail
    ((with_reducible refine (c11.out _).mono ?_); rintro e w6 ⟨rfl, b6⟩)
    have H6 := Lib.hid (H5.out.later b6)
    obtain ⟨p0, p1, p2⟩ := H6.out.2.lie
    clear b6 H5 c11
    go_wp2_with fail
    ((with_reducible refine (c12.out _).mono ?_); rintro e w7 ⟨rfl, b7⟩)
    have H7 := Lib.hid (H6.out.later b7)
    clear b7 p0 p1 p2 H6 c12
    go_wp2_with fail
    ((with_reducible refine (works _).mono ?_); rintro e w8 ⟨rfl, b8⟩)
    have H8 := Lib.hid (H7.out.later b8)
    clear b8 H7
    go_wp2
    go_ret
    exact ⟨rfl, H8.out.1⟩
theorem wideRing (a b c : Int) (w : World) (a0 : -9223372036854775808 ≤ a) (a1 : a ≤ 9223372036854775807) (b0 : -9223372036854775808 ≤ b) (b1 : b ≤ 9223372036854775807) (k0 : -9223372036854775808 ≤ c) (k1 : c ≤ 9223372036854775807) :
    Calls Try.prog 7 #[.int .i64 a, .int .i64 b, .int .i64 c] w fun e w' => e = .returned (.bool true) ∧ Below w.heap.size w w' := by
  obtain ⟨s1, s2, s3, s4, s5, s6⟩ := sign_mul a b
  refine ring_at a b c _ w a0 a1 b0 b1 k0 k1 rfl ?_
  rcases Int.lt_trichotomy a 0 with ha | ha | ha
  · rcases Int.lt_trichotomy b 0 with hb | hb | hb
    · exact .inr (.inr (.inr (.inr (.inr (.inr ⟨ha, hb, s4 ha hb⟩)))))
    · exact .inr (.inr (.inr (.inr (.inl ⟨ha, hb, s2 hb⟩))))
    · exact .inr (.inr (.inr (.inr (.inr (.inl ⟨ha, hb, s6 ha hb⟩)))))
  · exact .inl ⟨ha, s1 ha⟩
  · rcases Int.lt_trichotomy b 0 with hb | hb | hb
    · exact .inr (.inr (.inr (.inl ⟨ha, hb, s5 ha hb⟩)))
    · exact .inr (.inl ⟨ha, hb, s2 hb⟩)
    · exact .inr (.inr (.inl ⟨ha, hb, s3 ha hb⟩))
end Go.Proofs.Ytopakodhjaffiaa
