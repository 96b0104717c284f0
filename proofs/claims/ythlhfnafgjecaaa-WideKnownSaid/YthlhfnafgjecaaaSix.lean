/- The reference's digits: Read, sixOf, Of, six, Add, Neg. -/
import Derived.Test.YthlhfnafgjecaaaMem
import Derived.Deep.QuietTactic
import Derived.BigQuiet
namespace Go.Proofs.Ythlhfnafgjecaaa
open Go.RowKit
set_option linter.unusedVariables false

theorem sr_words (a b c z : Int) (ha : Wd.lo z = a) (hb : Wd.mi z = b) (hc : Wd.hi z = c) :
    #[Value.int .u64 (a % 4294967296), .int .u64 (a / 4294967296), .int .u64 (b % 4294967296), .int .u64 (b / 4294967296), .int .u64 (c % 4294967296), .int .u64 (c / 4294967296)] = sr z := by
  subst ha hb hc
  obtain ⟨d0, d1, d2, d3, d4, d5⟩ := Wd.dg_words z
  unfold sr
  rw [d0, d1, d2, d3, d4, d5]
set_option maxHeartbeats 1000000 in
theorem read (a b c z : Int) (w : World) (ha : Wd.lo z = a) (hb : Wd.mi z = b) (hc : Wd.hi z = c) :
    Calls Try.prog 33 #[.int .u64 a, .int .u64 b, .int .u64 c] w fun e w' => e = .returned (.agg (sr z)) ∧ Below w.heap.size w w' := by
  have H := Lib.hid (sr_words a b c z ha hb hc)
  have h0 := Wd.lo_wo z
  have h1 := Wd.mi_wo z
  have h2 := Wd.hi_wo z
  rw [ha] at h0
  rw [hb] at h1
  rw [hc] at h2
  obtain ⟨h0, h0'⟩ := h0
  obtain ⟨h1, h1'⟩ := h1
  obtain ⟨h2, h2'⟩ := h2
  clear ha hb hc
  go_enter Try.func33, Try.ntmps33
  go_wp2
  simp [bodyPost, results, Try.results33, go_sem]
  exact ⟨H.out, up_new _ _⟩
theorem sr_of (n : Int) (h0 : -9223372036854775808 ≤ n) (h1 : n ≤ 9223372036854775807) (d : Int) (hd : d = if n < 0 then 4294967295 else 0) :
    #[Value.int .u64 (IntKind.u64.wrap n % 4294967296), .int .u64 (IntKind.u64.wrap n / 4294967296), .int .u64 d, .int .u64 d, .int .u64 d, .int .u64 d] = sr n := by
  unfold sr
  simp only [Wd.dg, Wd.P]
  rw [IntKind.wrap_u64]
  subst hd
  split
  · rw [show n / 1 % 4294967296 = n % 18446744073709551616 % 4294967296 by omega, show n / 4294967296 % 4294967296 = n % 18446744073709551616 / 4294967296 by omega, show n / 18446744073709551616 = -1 by omega, show n / 79228162514264337593543950336 = -1 by omega,
      show n / 340282366920938463463374607431768211456 = -1 by omega, show n / 1461501637330902918203684832716283019655932542976 = -1 by omega]
    rfl
  · rw [show n / 1 % 4294967296 = n % 18446744073709551616 % 4294967296 by omega, show n / 4294967296 % 4294967296 = n % 18446744073709551616 / 4294967296 by omega, show n / 18446744073709551616 = 0 by omega, show n / 79228162514264337593543950336 = 0 by omega,
      show n / 340282366920938463463374607431768211456 = 0 by omega, show n / 1461501637330902918203684832716283019655932542976 = 0 by omega]
    rfl
set_option maxHeartbeats 1000000 in
theorem sixOf (n : Int) (w : World) (h0 : -9223372036854775808 ≤ n) (h1 : n ≤ 9223372036854775807) :
    Calls Try.prog 32 #[.int .i64 n] w fun e w' => e = .returned (.agg (sr n)) ∧ Below w.heap.size w w' := by
  have hw : 0 ≤ IntKind.u64.wrap n ∧ IntKind.u64.wrap n < 18446744073709551616 := by rw [IntKind.wrap_u64]; omega
  obtain ⟨hw0, hw1⟩ := hw
  by_cases hn : n < 0
  · have H := Lib.hid (sr_of n h0 h1 4294967295 (by rw [if_pos hn]))
    clear h0 h1
    obtain ⟨u, hu⟩ : ∃ u, IntKind.u64.wrap n = u := ⟨_, rfl⟩
    rw [hu] at H hw0 hw1
    go_enter Try.func32, Try.ntmps32
    go_wp2
    simp [bodyPost, results, Try.results32, go_sem]
    exact ⟨H.out, up_new _ _⟩
  · have H := Lib.hid (sr_of n h0 h1 0 (by rw [if_neg hn]))
    have hwn : Hid (IntKind.u64.wrap n = n) := Lib.hid (by rw [IntKind.wrap_u64]; omega)
    rw [hwn.out] at H hw0 hw1
    clear h0 h1 hwn
    go_enter Try.func32, Try.ntmps32
    go_wp2
    simp [bodyPost, results, Try.results32, go_sem]
    exact ⟨H.out, up_new _ _⟩
set_option maxHeartbeats 1000000 in
theorem six (z : Int) (w : World) : Calls Try.prog 20 #[wv z] w fun e w' => e = .returned (.agg (sr z)) ∧ Below w.heap.size w w' := by
  have C := fun w => read (Wd.lo z) (Wd.mi z) (Wd.hi z) z w rfl rfl rfl
  have R0 := heap_alloc2_new w (.cells #[.int .u64 (Wd.lo z), .int .u64 (Wd.mi z), .int .u64 (Wd.hi z)] 25) (.cells #[.int .u64 0, .int .u64 0, .int .u64 0, .int .u64 0, .int .u64 0, .int .u64 0] 43)
  have B0 := (up_new w (.cells #[.int .u64 (Wd.lo z), .int .u64 (Wd.mi z), .int .u64 (Wd.hi z)] 25)).alloc (by simp) (.cells #[.int .u64 0, .int .u64 0, .int .u64 0, .int .u64 0, .int .u64 0, .int .u64 0] 43)
  have HR0 := Lib.hid R0
  have HB0 := Lib.hid B0
  clear R0 B0
  unfold wv wr
  go_enter Try.func20, Try.ntmps20
  go_wp2_with fail
  ((with_reducible refine (C _).mono ?_); rintro e w1 ⟨rfl, b1⟩)
  have R1 := Lib.hid (below_row b1 HR0.out (Nat.le_refl _))
  have B2 := Lib.hid (Below.setRow' (up HB0.out b1) (g := w.heap.size + 1) (by omega) (sr z))
  have R2 := Lib.hid (setRow_heap _ _ _ (sr z) _ _ R1.out)
  have HI : Hid ((Try.prog.info? 43).map (·.size) = some (sr z).size) := Lib.hid (by rw [sr_size]; exact info_six)
  clear HR0 HB0 b1
  go_wp2_with (refine wpList_store_row rfl 43 (.tmp 2) (.tmp 9) rfl (w.heap.size + 1) (sr z) rfl rfl 43 _ R1.out HI.out (by rw [sr_size]; rfl) (sr_one z) ?_)
  (try simp only [Exit.inBlock, Exit.then])
  refine bodyPost_ret (v := .agg (sr z)) ?_ rfl ⟨rfl, B2.out⟩
  exact results_cell_row rfl _ _ (w.heap.size + 1) 43 _ _ _ rfl R2.out Try.underlying43 rfl HI.out
end Go.Proofs.Ythlhfnafgjecaaa
