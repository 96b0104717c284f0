/- The reference's Add and Neg. -/
import Derived.Test.YthlhfnafgjecaaaSix
namespace Go.Proofs.Ythlhfnafgjecaaa
open Go.RowKit
set_option linter.unusedVariables false

/-- A row of six that lies. -/
def L6 (w : World) (g : Nat) (cs : Array Value) : Prop := w.heap[g]? = some (.cells cs 43 (0, 0))
theorem L6.lt {w : World} {g : Nat} {cs : Array Value} (h : L6 w g cs) : g < w.heap.size := by
  rcases Nat.lt_or_ge g w.heap.size with hlt | hge
  · exact hlt
  · unfold L6 at h; rw [Array.getElem?_eq_none hge] at h; cases h
theorem L6.later {w w' : World} {g : Nat} {cs : Array Value} (h : L6 w g cs) (hb : Below w.heap.size w w') : L6 w' g cs := below_row hb h (Nat.le_refl _)
theorem L6.last (w : World) (cs : Array Value) : L6 (w.alloc (.cells cs 43)) w.heap.size cs := Go.heap_alloc_last w _
theorem L6.drewN {w : World} {g : Nat} {cs : Array Value} (h : L6 w g cs) (n : Nat) : L6 (w.drewN n) g cs := h
theorem L6.cell {w : World} {g : Nat} {z : Int} (h : L6 w g (sr z)) (k : Nat) (hk : k < 6) : w.cell? ⟨g, k, none⟩ = some (.int .u64 (Wd.dg k z)) := by
  rw [cell_of_row _ _ _ _ _ _ h, sr_get z k hk]
theorem L6.set {w : World} {g k : Nat} {cs : Array Value} (h : L6 w g cs) (v : Value) : L6 (w.setCell ⟨g, k, none⟩ v) g (cs.setIfInBounds k v) := heap_setCell_same _ _ _ _ _ _ h
theorem L6.other {w : World} {g k j : Nat} {cs : Array Value} (h : L6 w g cs) (hj : g ≠ j) (v : Value) : L6 (w.setCell ⟨j, k, none⟩ v) g cs := by
  unfold L6; rw [heap_setCell_other _ _ _ _ (by simpa using hj)]; exact h
theorem L6.row {w : World} {g : Nat} {cs : Array Value} (h : L6 w g cs) (cs' : Array Value) : L6 (w.setRow g cs') g cs' := setRow_heap _ _ _ _ _ _ h
theorem L6.row_other {w : World} {g j : Nat} {cs : Array Value} (h : L6 w g cs) (hj : g ≠ j) (cs' : Array Value) : L6 (w.setRow j cs') g cs := (setRow_other w j g cs' hj).trans h
theorem six_info (cs : Array Value) (h : cs.size = 6) : (Try.prog.info? 43).map (·.size) = some cs.size := by rw [h]; exact info_six
def z6 : Array Value := #[.int .u64 0, .int .u64 0, .int .u64 0, .int .u64 0, .int .u64 0, .int .u64 0]

theorem size1 (w : World) (a : Obj) : (w.alloc a).heap.size = w.heap.size + 1 := by simp
theorem size2 (w : World) (a b : Obj) : ((w.alloc a).alloc b).heap.size = w.heap.size + 1 + 1 := by simp
theorem size3 (w : World) (a b c : Obj) : (((w.alloc a).alloc b).alloc c).heap.size = w.heap.size + 1 + 1 + 1 := by simp
theorem add_step (k : Nat) (x y z : Int) (hk : k < 6) (hz : x + y = z) : (Wd.dg k x + Wd.dg k y + Wd.cy k x y) % 4294967296 = Wd.dg k z ∧ (Wd.dg k x + Wd.dg k y + Wd.cy k x y) / 4294967296 = Wd.cy (k + 1) x y := by
  subst hz
  exact ⟨Wd.cy_dg k x y hk, Wd.cy_succ k x y hk⟩

set_option maxHeartbeats 4000000 in
set_option maxRecDepth 100000 in
theorem radd (x y z : Int) (w : World) (hz : x + y = z) : Calls Try.prog 28 #[.agg (sr x), .agg (sr y)] w fun e w' => e = .returned (.agg (sr z)) ∧ Below w.heap.size w w' := by
  have h0 : Hid (L6 ((((w.alloc (.cells (sr x) 43)).alloc (.cells (sr y) 43)).alloc (.cells z6 43)).alloc (.cells z6 43)) w.heap.size (sr x)) :=
    Lib.hid ((((L6.last w _).later (up_new _ _)).later (up_new _ _)).later (up_new _ _))
  have h1 : Hid (L6 ((((w.alloc (.cells (sr x) 43)).alloc (.cells (sr y) 43)).alloc (.cells z6 43)).alloc (.cells z6 43)) (w.heap.size + 1) (sr y)) :=
    Lib.hid (size1 w _ ▸ ((L6.last (w.alloc (.cells (sr x) 43)) (sr y)).later (up_new _ (.cells z6 43))).later (up_new _ (.cells z6 43)))
  have h2 : Hid (L6 ((((w.alloc (.cells (sr x) 43)).alloc (.cells (sr y) 43)).alloc (.cells z6 43)).alloc (.cells z6 43)) (w.heap.size + 1 + 1) z6) :=
    Lib.hid (size2 w _ _ ▸ (L6.last ((w.alloc (.cells (sr x) 43)).alloc (.cells (sr y) 43)) z6).later (up_new _ (.cells z6 43)))
  have h3 : Hid (L6 ((((w.alloc (.cells (sr x) 43)).alloc (.cells (sr y) 43)).alloc (.cells z6 43)).alloc (.cells z6 43)) (w.heap.size + 1 + 1 + 1) (pr z 0)) :=
    Lib.hid (pr_zero z ▸ size3 w _ _ _ ▸ L6.last (((w.alloc (.cells (sr x) 43)).alloc (.cells (sr y) 43)).alloc (.cells z6 43)) z6)
  have hb : Hid (Below w.heap.size w ((((w.alloc (.cells (sr x) 43)).alloc (.cells (sr y) 43)).alloc (.cells z6 43)).alloc (.cells z6 43))) :=
    Lib.hid ((((up_new w _).alloc (by simp) _).alloc (by simp; omega) _).alloc (by simp; omega) _)
  unfold z6 at *
  have hc0 : Hid (Wd.cy 0 x y = 0) := Lib.hid (Wd.cy_zero x y)
  go_enter Try.func28, Try.ntmps28
  go_wp2
  generalize (((w.alloc (.cells (sr x) 43)).alloc (.cells (sr y) 43)).alloc (.cells #[.int .u64 0, .int .u64 0, .int .u64 0, .int .u64 0, .int .u64 0, .int .u64 0] 43)).alloc (.cells #[.int .u64 0, .int .u64 0, .int .u64 0, .int .u64 0, .int .u64 0, .int .u64 0] 43) = W0 at *
  go_loopw [6, 7] (fun o i ww => ∃ k : Nat, k ≤ 6 ∧ i = .int .i64 k ∧ o = .int .u64 (Wd.cy k x y) ∧ Hid (Below w.heap.size w ww) ∧ Hid (L6 ww w.heap.size (sr x)) ∧ Hid (L6 ww (w.heap.size + 1) (sr y)) ∧ Hid (L6 ww (w.heap.size + 1 + 1) z6) ∧ Hid (L6 ww (w.heap.size + 1 + 1 + 1) (pr z k))) (fun _ i _ => 6 - (intOf i).toNat)
  case atStart => exact ⟨0, by omega, rfl, by rw [hc0.out], hb, h0, h1, h2, h3⟩
  case round =>
    clear h0 h1 h2 h3 hb hc0
    obtain ⟨k, hk, rfl, rfl, hb, h0, h1, h2, h3⟩ := hrel
    by_cases hlt : k < 6
    · have hlt' : (k : Int) < 6 := by omega
      have g0 := h0.out.cell k hlt
      have g1 := h1.out.cell k hlt
      have HS := Lib.hid (add_step k x y z hlt hz)
      have d0 := Wd.dg_lt k x
      have d1 := Wd.dg_lt k y
      have d2 := Wd.cy_le k x y
      have HP := Lib.hid (pr_set z k hlt)
      have HY : Hid (wr.cell? ⟨w.heap.size + 1 + 1 + 1, k, none⟩ = some (.int .u64 0)) := Lib.hid (by rw [cell_of_row _ _ _ _ _ _ h3.out, pr_get z k k hlt]; simp)
      generalize Wd.cy k x y = o at *
      generalize Wd.dg k x = dx at *
      generalize Wd.dg k y = dy at *
      obtain ⟨d00, d01⟩ := d0
      obtain ⟨d10, d11⟩ := d1
      obtain ⟨d20, d21⟩ := d2
      go_wp2
      go_quiet (fail)
      have q0 := Lib.hid (h0.out.drewN nq)
      have q1 := Lib.hid (h1.out.drewN nq)
      have q2 := Lib.hid (h2.out.drewN nq)
      have q3 := Lib.hid (h3.out.drewN nq)
      have qb := Lib.hid (below_drewN hb.out nq)
      have HY' : (wr.drewN nq).cell? ⟨w.heap.size + 1 + 1 + 1, k, none⟩ = some (.int .u64 0) := HY.out
      have HF : (wr.drewN nq).frozen? ⟨w.heap.size + 1 + 1 + 1, k, none⟩ = false := frozen_of_row _ _ _ _ _ q3.out
      clear h0 h1 h2 h3 hb g0 g1 HY
      generalize wr.drewN nq = w5 at *
      have e0 : 0 ≤ dx + dy + o := by omega
      have e1 : dx + dy + o < 18446744073709551616 := by omega
      go_wp2
      go_roundw
      case rel =>
        exact ⟨k + 1, by omega, by go_num, by rw [HS.out.2], Lib.hid (qb.out.setCell (by simp; omega) _), Lib.hid (q0.out.other (by omega) _), Lib.hid (q1.out.other (by omega) _), Lib.hid (q2.out.other (by omega) _),
          Lib.hid (by rw [← HP.out, ← HS.out.1]; exact q3.out.set _)⟩
      case measure => simp [intOf]; omega
    · obtain rfl : k = 6 := by omega
      have h32 : decide (((6 : Nat) : Int) < 6) = false := rfl
      have HZ : Hid (pr z 6 = sr z) := Lib.hid (pr_all z)
      rw [HZ.out] at h3
      have B2 := Lib.hid (Below.setRow' hb.out (g := w.heap.size + 1 + 1) (by omega) (sr z))
      have R2 := Lib.hid (h2.out.row (sr z))
      have HI := Lib.hid (six_info (sr z) (sr_size z))
      clear h0 h1 HZ hb
      go_wp2_with (first
        | refine wpList_load_row rfl 43 (.tmp 5) rfl (w.heap.size + 1 + 1 + 1) rfl 43 (sr z) (0, 0) _ h3.out Try.underlying43 rfl HI.out ?_
        | refine wpList_store_row rfl 43 (.tmp 4) (.tmp 28) rfl (w.heap.size + 1 + 1) (sr z) rfl rfl 43 z6 h2.out HI.out (by rw [sr_size]; rfl) (sr_one z) ?_)
      (try simp only [Exit.inBlock, Exit.then])
      refine bodyPost_ret (v := .agg (sr z)) ?_ rfl ⟨rfl, B2.out⟩
      exact results_cell_row rfl _ _ (w.heap.size + 1 + 1) 43 _ _ _ rfl R2.out Try.underlying43 rfl HI.out
end Go.Proofs.Ythlhfnafgjecaaa
