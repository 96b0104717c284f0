/- The reference's Neg. -/
import Derived.Test.YthlhfnafgjecaaaRadd
namespace Go.Proofs.Ythlhfnafgjecaaa
open Go.RowKit
set_option linter.unusedVariables false

theorem sr_1 : #[Value.int .u64 1, .int .u64 0, .int .u64 0, .int .u64 0, .int .u64 0, .int .u64 0] = sr 1 := by
  unfold sr; rfl
set_option maxHeartbeats 4000000 in
set_option maxRecDepth 100000 in
theorem rneg (x z : Int) (w : World) (hz : -x = z) : Calls Try.prog 29 #[.agg (sr x)] w fun e w' => e = .returned (.agg (sr z)) ∧ Below w.heap.size w w' := by
  have h0 : Hid (L6 (((w.alloc (.cells (sr x) 43)).alloc (.cells z6 43)).alloc (.cells z6 43)) w.heap.size (sr x)) :=
    Lib.hid (((L6.last w _).later (up_new _ _)).later (up_new _ _))
  have h1 : Hid (L6 (((w.alloc (.cells (sr x) 43)).alloc (.cells z6 43)).alloc (.cells z6 43)) (w.heap.size + 1) z6) :=
    Lib.hid (size1 w _ ▸ (L6.last (w.alloc (.cells (sr x) 43)) z6).later (up_new _ (.cells z6 43)))
  have h2 : Hid (L6 (((w.alloc (.cells (sr x) 43)).alloc (.cells z6 43)).alloc (.cells z6 43)) (w.heap.size + 1 + 1) (pr (-1 - x) 0)) :=
    Lib.hid (pr_zero (-1 - x) ▸ size2 w _ _ ▸ L6.last ((w.alloc (.cells (sr x) 43)).alloc (.cells z6 43)) z6)
  have hb : Hid (Below w.heap.size w (((w.alloc (.cells (sr x) 43)).alloc (.cells z6 43)).alloc (.cells z6 43))) :=
    Lib.hid (((up_new w _).alloc (by simp) _).alloc (by simp; omega) _)
  unfold z6 at *
  have A := Lib.hid (fun w => radd (-1 - x) 1 z w (by omega))
  go_enter Try.func29, Try.ntmps29
  go_wp2
  generalize ((w.alloc (.cells (sr x) 43)).alloc (.cells #[.int .u64 0, .int .u64 0, .int .u64 0, .int .u64 0, .int .u64 0, .int .u64 0] 43)).alloc (.cells #[.int .u64 0, .int .u64 0, .int .u64 0, .int .u64 0, .int .u64 0, .int .u64 0] 43) = W0 at *
  go_loopw [4] (fun i ww => ∃ k : Nat, k ≤ 6 ∧ i = .int .i64 k ∧ Hid (Below w.heap.size w ww) ∧ Hid (L6 ww w.heap.size (sr x)) ∧ Hid (L6 ww (w.heap.size + 1) z6) ∧ Hid (L6 ww (w.heap.size + 1 + 1) (pr (-1 - x) k))) (fun i _ => 6 - (intOf i).toNat)
  case atStart => exact ⟨0, by omega, rfl, hb, h0, h1, h2⟩
  case round =>
    clear h0 h1 h2 hb
    obtain ⟨k, hk, rfl, hb, h0, h1, h2⟩ := hrel
    by_cases hlt : k < 6
    · have hlt' : (k : Int) < 6 := by omega
      have g0 := h0.out.cell k hlt
      have HS := Lib.hid (Wd.dg_not k x hlt)
      have d0 := Wd.dg_lt k x
      have HP := Lib.hid (pr_set (-1 - x) k hlt)
      have HY : wr.cell? ⟨w.heap.size + 1 + 1, k, none⟩ = some (.int .u64 0) := by rw [cell_of_row _ _ _ _ _ _ h2.out, pr_get (-1 - x) k k hlt]; simp
      have HF : wr.frozen? ⟨w.heap.size + 1 + 1, k, none⟩ = false := frozen_of_row _ _ _ _ _ h2.out
      generalize Wd.dg k x = dx at *
      obtain ⟨d00, d01⟩ := d0
      go_wp2
      go_roundw
      case rel =>
        exact ⟨k + 1, by omega, by go_num, Lib.hid (hb.out.setCell (by simp; omega) _), Lib.hid (h0.out.other (by omega) _), Lib.hid (h1.out.other (by omega) _),
          Lib.hid (by rw [← HP.out, ← HS.out]; exact h2.out.set _)⟩
      case measure => simp [intOf]; omega
    · obtain rfl : k = 6 := by omega
      have h32 : decide (((6 : Nat) : Int) < 6) = false := rfl
      have HZ : Hid (pr (-1 - x) 6 = sr (-1 - x)) := Lib.hid (pr_all (-1 - x))
      rw [HZ.out] at h2
      have HI := Lib.hid (six_info (sr z) (sr_size z))
      have HJ := Lib.hid (six_info (sr (-1 - x)) (sr_size (-1 - x)))
      clear h0 HZ
      go_wp2_with (refine wpList_load_row rfl 43 (.tmp 3) rfl (w.heap.size + 1 + 1) rfl 43 (sr (-1 - x)) (0, 0) _ h2.out Try.underlying43 rfl HJ.out ?_)
      rw [sr_1]
      ((with_reducible refine (A.out _).mono ?_); rintro e w1 ⟨rfl, b1⟩)
      have H1 := Lib.hid (h1.out.later b1)
      have B2 := Lib.hid (Below.setRow' (up hb.out b1) (g := w.heap.size + 1) (by omega) (sr z))
      have R2 := Lib.hid (H1.out.row (sr z))
      clear h1 h2 hb b1
      go_wp2_with (refine wpList_store_row rfl 43 (.tmp 2) (.tmp 17) rfl (w.heap.size + 1) (sr z) rfl rfl 43 z6 H1.out HI.out (by rw [sr_size]; rfl) (sr_one z) ?_)
      (try simp only [Exit.inBlock, Exit.then])
      refine bodyPost_ret (v := .agg (sr z)) ?_ rfl ⟨rfl, B2.out⟩
      exact results_cell_row rfl _ _ (w.heap.size + 1) 43 _ _ _ rfl R2.out Try.underlying43 rfl HI.out
end Go.Proofs.Ythlhfnafgjecaaa
