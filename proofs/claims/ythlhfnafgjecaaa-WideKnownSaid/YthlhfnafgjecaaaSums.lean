/- Of, total, Add, size, Mul, Neg of the program. -/
import Derived.Test.YthlhfnafgjecaaaMem
namespace Go.Proofs.Ythlhfnafgjecaaa
open Go.RowKit
set_option linter.unusedVariables false

theorem of_hi (n : Int) (h0 : -9223372036854775808 ≤ n) (h1 : n ≤ 9223372036854775807) : IntKind.u64.wrap (n / 9223372036854775808) = Wd.hi n ∧ IntKind.u64.wrap (n / 9223372036854775808) = Wd.mi n := by
  rw [IntKind.wrap_u64]
  unfold Wd.hi Wd.mi
  rcases Int.lt_or_le n 0 with h | h
  · rw [show n / 9223372036854775808 = -1 by omega, show n / 340282366920938463463374607431768211456 = -1 by omega, show n / 18446744073709551616 = -1 by omega]; decide
  · rw [show n / 9223372036854775808 = 0 by omega, show n / 340282366920938463463374607431768211456 = 0 by omega, show n / 18446744073709551616 = 0 by omega]; decide
theorem of_lo (n : Int) : IntKind.u64.wrap n = Wd.lo n := by rw [IntKind.wrap_u64]; rfl
theorem wv_of (n : Int) (h0 : -9223372036854775808 ≤ n) (h1 : n ≤ 9223372036854775807) :
    Value.agg #[.int .u64 (IntKind.u64.wrap n), .int .u64 (IntKind.u64.wrap (n / 9223372036854775808)), .int .u64 (IntKind.u64.wrap (n / 9223372036854775808))] = wv n := by
  have h := of_hi n h0 h1
  unfold wv wr
  rw [← h.1, ← h.2, ← of_lo]
set_option maxHeartbeats 1000000 in
theorem of_ (n : Int) (w : World) (h0 : -9223372036854775808 ≤ n) (h1 : n ≤ 9223372036854775807) :
    Calls Try.prog 23 #[.int .i64 n] w fun e w' => e = .returned (wv n) ∧ Below w.heap.size w w' := by
  have e1 := Lib.hid (wv_of n h0 h1)
  clear h0 h1
  go_enter Try.func23, Try.ntmps23
  go_wp2
  simp [bodyPost, results, Try.results23, go_sem]
  exact ⟨e1.out, up_new _ _⟩

/-- The sum of the first k. -/
def sm (f : Nat → Int) : Nat → Int
  | 0 => 0
  | k + 1 => sm f k + f k
theorem sm_bounds (f : Nat → Int) (n : Nat) (hf : ∀ k, k < n → Wd.Wo (f k)) : ∀ k, k ≤ n → 0 ≤ sm f k ∧ sm f k ≤ 18446744073709551615 * k
  | 0, _ => by simp [sm]
  | k + 1, h => by
    have h1 := sm_bounds f n hf k (by omega)
    have h2 := hf k (by omega)
    unfold Wd.Wo at h2
    simp only [sm]
    omega
theorem tot_step (s x : Int) (hs : 0 ≤ s) (h1 : s ≤ 36893488147419103230) (hx : Wd.Wo x) : (s % 18446744073709551616 + x) % 18446744073709551616 = (s + x) % 18446744073709551616 ∧
    IntKind.u64.wrap (s / 18446744073709551616 + (s % 18446744073709551616 + x) / 18446744073709551616) = (s + x) / 18446744073709551616 := by
  unfold Wd.Wo at hx
  rw [IntKind.wrap_u64]
  refine ⟨by omega, by omega⟩
set_option maxHeartbeats 2000000 in
theorem total (b n c : Nat) (f : Nat → Int) (w : World) (hn : n ≤ 3) (hf : ∀ k, k < n → Wd.Wo (f k)) (hc : ∀ k, k < n → w.cell? ⟨b, k, none⟩ = some (.int .u64 (f k))) :
    Calls Try.prog 39 #[.slice (some ⟨b, 0, none⟩) n c] w fun e w' => e = .returned (.tuple #[.int .u64 (sm f n % 18446744073709551616), .int .u64 (sm f n / 18446744073709551616)]) ∧ w = w' := by
  have HF := Lib.hid hf
  have HC := Lib.hid hc
  clear hf hc
  go_enter Try.func39, Try.ntmps39
  go_wp2
  go_loop [2, 3, 9] (fun x y i => ∃ k : Nat, k ≤ n ∧ i = .int .i64 k ∧ x = .int .u64 (sm f k % 18446744073709551616) ∧ y = .int .u64 (sm f k / 18446744073709551616)) (fun _ _ i => n - (intOf i).toNat)
  case atStart => exact ⟨0, by omega, rfl, rfl, rfl⟩
  case round =>
    obtain ⟨k, hk, rfl, rfl, rfl⟩ := hrel
    have hb := sm_bounds f n HF.out k hk
    by_cases hlt : k < n
    · have hlt' : (k : Int) < n := by omega
      have hg := HC.out k hlt
      have hw := HF.out k hlt
      have HS := Lib.hid (tot_step (sm f k) (f k) hb.1 (by omega) hw)
      have a1 := add64_0 (sm f k % 18446744073709551616) (f k) (by omega) hw.1
      have HX := Lib.hid (show sm f (k + 1) = sm f k + f k from rfl)
      clear hw hb
      generalize sm f k = s at *
      generalize f k = x at *
      go_wp2_with (first | simp only [a1])
      go_round
      case rel => exact ⟨k + 1, by omega, by go_num, by rw [HX.out], by rw [HX.out, HS.out.2]⟩
      case measure => simp [intOf]; omega
    · obtain rfl : k = n := by omega
      clear hb
      go_wp2
      go_ret2
      exact ⟨rfl, rfl⟩
theorem total2 (b c : Nat) (x y : Int) (w : World) (hx : Wd.Wo x) (hy : Wd.Wo y) (h0 : w.cell? ⟨b, 0, none⟩ = some (.int .u64 x)) (h1 : w.cell? ⟨b, 1, none⟩ = some (.int .u64 y)) :
    Calls Try.prog 39 #[.slice (some ⟨b, 0, none⟩) 2 c] w fun e w' => e = .returned (.tuple #[.int .u64 ((x + y) % 18446744073709551616), .int .u64 ((x + y) / 18446744073709551616)]) ∧ w = w' := by
  have h := total b 2 c (fun k => if k = 0 then x else y) w (by omega) (fun k hk => by split <;> assumption) (fun k hk => by
    rcases (show k = 0 ∨ k = 1 by omega) with rfl | rfl
    · exact h0
    · exact h1)
  simpa [sm] using h
theorem total3 (b c : Nat) (x y z : Int) (w : World) (hx : Wd.Wo x) (hy : Wd.Wo y) (hz : Wd.Wo z) (h0 : w.cell? ⟨b, 0, none⟩ = some (.int .u64 x)) (h1 : w.cell? ⟨b, 1, none⟩ = some (.int .u64 y)) (h2 : w.cell? ⟨b, 2, none⟩ = some (.int .u64 z)) :
    Calls Try.prog 39 #[.slice (some ⟨b, 0, none⟩) 3 c] w fun e w' => e = .returned (.tuple #[.int .u64 ((x + y + z) % 18446744073709551616), .int .u64 ((x + y + z) / 18446744073709551616)]) ∧ w = w' := by
  have h := total b 3 c (fun k => if k = 0 then x else if k = 1 then y else z) w (by omega) (fun k hk => by split; exact hx; split <;> assumption) (fun k hk => by
    rcases (show k = 0 ∨ k = 1 ∨ k = 2 by omega) with rfl | rfl | rfl
    · exact h0
    · exact h1
    · exact h2)
  simpa [sm] using h

set_option maxHeartbeats 2000000 in
theorem add_words (x0 x1 x2 y0 y1 y2 : Int) (w : World) (hx0 : Wd.Wo x0) (hx1 : Wd.Wo x1) (hx2 : Wd.Wo x2) (hy0 : Wd.Wo y0) (hy1 : Wd.Wo y1) (hy2 : Wd.Wo y2) (c0 c1 : Int) (hc0 : (x0 + y0) / 18446744073709551616 = c0) (hc1 : (x1 + y1 + c0) / 18446744073709551616 = c1) :
    Calls Try.prog 27 #[.agg #[.int .u64 x0, .int .u64 x1, .int .u64 x2], .agg #[.int .u64 y0, .int .u64 y1, .int .u64 y2]] w fun e w' =>
      e = .returned (.agg #[.int .u64 ((x0 + y0) % 18446744073709551616), .int .u64 ((x1 + y1 + c0) % 18446744073709551616), .int .u64 ((x2 + y2 + c1) % 18446744073709551616)]) ∧ Below w.heap.size w w' := by
  have k0 : Wd.Wo c0 := by unfold Wd.Wo at *; omega
  have k1 : Wd.Wo c1 := by unfold Wd.Wo at *; omega
  go_enter Try.func27, Try.ntmps27
  go_wp2_with fail
  ((with_reducible refine (total2 _ _ x0 y0 _ hx0 hy0 (by simp [go_sem]) (by simp [go_sem])).mono ?_); rintro e w1 ⟨rfl, rfl⟩)
  rw [hc0]
  go_wp2_with fail
  ((with_reducible refine (total3 _ _ x1 y1 c0 _ hx1 hy1 k0 (by simp [go_sem]) (by simp [go_sem]) (by simp [go_sem])).mono ?_); rintro e w1 ⟨rfl, rfl⟩)
  rw [hc1]
  go_wp2_with fail
  ((with_reducible refine (total3 _ _ x2 y2 c1 _ hx2 hy2 k1 (by simp [go_sem]) (by simp [go_sem]) (by simp [go_sem])).mono ?_); rintro e w1 ⟨rfl, rfl⟩)
  go_wp2
  simp [bodyPost, results, Try.results27, go_sem]
  exact ((((((up_new w _).alloc (by simp) _).alloc (by simp; omega) _).alloc (by simp; omega) _).alloc (by simp; omega) _).alloc (by simp; omega) _)
theorem add (x y : Int) (w : World) : Calls Try.prog 27 #[wv x, wv y] w fun e w' => e = .returned (wv (x + y)) ∧ Below w.heap.size w w' := by
  have h := add_words (Wd.lo x) (Wd.mi x) (Wd.hi x) (Wd.lo y) (Wd.mi y) (Wd.hi y) w (Wd.lo_wo x) (Wd.mi_wo x) (Wd.hi_wo x) (Wd.lo_wo y) (Wd.mi_wo y) (Wd.hi_wo y) _ _ rfl rfl
  rw [Wd.add_lo, Wd.add_mi, Wd.add_hi] at h
  exact h

set_option maxHeartbeats 1000000 in
theorem size (n : Int) (w : World) (h0 : -9223372036854775808 ≤ n) (h1 : n ≤ 9223372036854775807) :
    Calls Try.prog 38 #[.int .i64 n] w fun e w' => e = .returned (.int .u64 (n.natAbs : Nat)) ∧ w = w' := by
  by_cases hn : n < 0
  · have e1 : Hid (IntKind.u64.wrap (-(IntKind.u64.wrap n)) = (n.natAbs : Nat)) := Lib.hid (by rw [IntKind.wrap_u64, IntKind.wrap_u64]; omega)
    go_enter Try.func38, Try.ntmps38
    go_wp2
    go_ret
    exact ⟨congrArg Ending.returned (congrArg (Value.int IntKind.u64) e1.out), rfl⟩
  · have e1 : Hid (n = (n.natAbs : Nat)) := Lib.hid (by omega)
    go_enter Try.func38, Try.ntmps38
    go_wp2
    go_ret
    exact ⟨congrArg Ending.returned (congrArg (Value.int IntKind.u64) e1.out), rfl⟩

end Go.Proofs.Ythlhfnafgjecaaa
