/- The chapter's examples ('works') come out as they should, in whatever memory. -/
import Derived.Test.YthnjadhheklofaaWri
namespace Go.Proofs.Ythnjadhheklofaa
open Go.RowKit
set_option linter.unusedVariables false

theorem up_alloc {w w1 w2 : World} {o : Obj} (h : Below w.heap.size w w1) (h2 : Below (w1.alloc o).heap.size (w1.alloc o) w2) : Below w.heap.size w w2 :=
  (h.alloc h.size o).trans (h2.mono (by have := h.size; simp; omega))
theorem up {w w1 w2 : World} (h : Below w.heap.size w w1) (h2 : Below w1.heap.size w1 w2) : Below w.heap.size w w2 := h.trans (h2.mono h.size)
theorem up_new (w : World) (o : Obj) : Below w.heap.size w (w.alloc o) := (Below.refl _ _).alloc (Nat.le_refl _) _

/-- A list that is written out. -/
theorem rd_lit (w : World) (l : List Nat) (cs : Array Value) (n : Nat) (hcs : cs = (vals l).toArray) (hn : n = l.length) (hm : l.length ≤ 1000) (hb : ∀ x ∈ l, x < 256) :
    Rd (w.alloc (.cells cs 5)) (w.alloc (.cells cs 5)).heap.size (.slice (some ⟨w.heap.size, 0, none⟩) n n) l := by
  subst hcs hn
  refine ⟨_, _, rfl, Nat.le_refl _, by simp only [maxLen]; omega, by simp, hb, fun _ => ⟨w.heap.size, 0, rfl, by simp, fun k hk => ?_⟩⟩
  rw [Nat.zero_add]
  have := cell_of_row (w.alloc (.cells (vals l).toArray 5)) w.heap.size k _ 5 (0, 0) (heap_alloc_new w _)
  rw [this]
  simp [vals, List.getElem?_eq_getElem hk]

theorem eq_yes (v u : Value) (l r : List Nat) (w : World) (hv : Rd w w.heap.size v l) (hu : Rd w w.heap.size u r) (h : l = r) :
    Calls Try.prog 14 #[v, u] w fun e w' => e = .returned (.bool true) ∧ w = w' :=
  (eqBytes v u l r w hv hu).mono fun _ _ ⟨he, hw⟩ => ⟨he.trans (by rw [decide_eq_true h]), hw⟩
theorem eq_no (v u : Value) (l r : List Nat) (w : World) (hv : Rd w w.heap.size v l) (hu : Rd w w.heap.size u r) (h : l ≠ r) :
    Calls Try.prog 14 #[v, u] w fun e w' => e = .returned (.bool false) ∧ w = w' :=
  (eqBytes v u l r w hv hu).mono fun _ _ ⟨he, hw⟩ => ⟨he.trans (by rw [decide_eq_false h]), hw⟩
theorem size_is (x k : Int) (w : World) (h0 : 0 ≤ x) (h1 : x ≤ 18446744073709551615) (hk : ((Leb.enc x.toNat).length : Int) = k) :
    Calls Try.prog 17 #[.int .u64 x] w fun e w' => e = .returned (.int .i64 k) ∧ w = w' :=
  (size x w h0 h1).mono fun _ _ ⟨he, hw⟩ => ⟨he.trans (by rw [hk]), hw⟩
theorem zig_is (x y : Int) (w : World) (h0 : -9223372036854775808 ≤ x) (h1 : x ≤ 9223372036854775807) (hy : zigN x = y) :
    Calls Try.prog 19 #[.int .i64 x] w fun e w' => e = .returned (.int .u64 y) ∧ w = w' :=
  (zig x w h0 h1).mono fun _ _ ⟨he, hw⟩ => ⟨he.trans (by rw [hy]), hw⟩
theorem zag_is (x y : Int) (w : World) (h0 : 0 ≤ x) (h1 : x ≤ 18446744073709551615) (hy : zagN x = y) :
    Calls Try.prog 21 #[.int .u64 x] w fun e w' => e = .returned (.int .i64 y) ∧ w = w' :=
  (zag x w h0 h1).mono fun _ _ ⟨he, hw⟩ => ⟨he.trans (by rw [hy]), hw⟩
theorem getInt_is (v : Value) (l : List Nat) (w : World) (h : Rd w w.heap.size v l) (a b c : Int) (ha : decI l = a) (hb : ((Leb.dec l).2.1 : Int) = b) (hc : ((Leb.dec l).2.2 : Int) = c) :
    Calls Try.prog 26 #[v] w fun e w' => e = .returned (.tuple #[.int .i64 a, .int .i64 b, .int .i64 c]) ∧ w = w' :=
  (getInt v l w h).mono fun _ _ ⟨he, hw⟩ => ⟨he.trans (by rw [ha, hb, hc]), hw⟩

set_option maxHeartbeats 400000 in
theorem reads_yes (n k c : Int) (v : Value) (l : List Nat) (w : World) (h : Rd w w.heap.size v l) (hn : ((Leb.dec l).1 : Int) = n) (hk : ((Leb.dec l).2.1 : Int) = k) (hc : ((Leb.dec l).2.2 : Int) = c) :
    Calls Try.prog 32 #[.int .u64 n, .int .i64 k, .int .i64 c, v] w fun e w' => e = .returned (.bool true) ∧ w = w' := by
  subst hn hk hc
  go_enter Try.func32, Try.ntmps32
  go_wp2_with fail
  refine (get v l _ h).mono ?_
  rintro e w' ⟨rfl, rfl⟩
  go_wp2
  go_ret
  exact ⟨rfl, rfl⟩

set_option maxHeartbeats 2000000 in
set_option maxRecDepth 100000 in
theorem works (w : World) : Calls Try.prog 23 #[] w fun e w' => e = .returned (.bool true) ∧ Below w.heap.size w w' := by
  go_enter Try.func23, Try.ntmps23
  go_wp2_with fail
  refine (put _ [255] 300 _ (rd_lit w [255] _ 1 rfl rfl (by decide) (by decide)) (by decide) (by decide) (by decide)).mono ?_
  rintro e w1 ⟨r1, rfl, ho1, hb1⟩
  have b1 : Below w.heap.size w w1 := up_alloc (Below.refl _ _) hb1
  clear hb1
  go_wp2_with fail
  refine (eq_yes r1 _ _ [255, 172, 2] _ (ho1.later (up_new _ _)).rd (rd_lit w1 [255, 172, 2] _ 3 rfl rfl (by decide) (by decide)) (by decide)).mono ?_
  rintro e w' ⟨rfl, rfl⟩
  have b2 : Below w.heap.size w (w1.alloc (.cells (vals [255, 172, 2]).toArray 5)) := b1.alloc b1.size _
  generalize w1.alloc (.cells (vals [255, 172, 2]).toArray 5) = w2 at *
  clear ho1 b1
  go_wp2_with fail
  refine (size_is 300 2 _ (by decide) (by decide) (by decide)).mono ?_
  rintro e w' ⟨rfl, rfl⟩
  go_wp2_with fail
  refine (size_is 0 1 _ (by decide) (by decide) (by decide)).mono ?_
  rintro e w' ⟨rfl, rfl⟩
  go_wp2_with fail
  refine (size_is 18446744073709551615 10 _ (by decide) (by decide) (by decide +kernel)).mono ?_
  rintro e w' ⟨rfl, rfl⟩
  go_wp2_with fail
  refine (zig_is (-1) 1 _ (by decide) (by decide) (by decide)).mono ?_
  rintro e w' ⟨rfl, rfl⟩
  go_wp2_with fail
  refine (zig_is 1 2 _ (by decide) (by decide) (by decide)).mono ?_
  rintro e w' ⟨rfl, rfl⟩
  go_wp2_with fail
  refine (zig_is (-9223372036854775808) 18446744073709551615 _ (by decide) (by decide) (by decide)).mono ?_
  rintro e w' ⟨rfl, rfl⟩
  go_wp2_with fail
  refine (zag_is 3 (-2) _ (by decide) (by decide) (by decide)).mono ?_
  rintro e w' ⟨rfl, rfl⟩
  go_wp2_with fail
  refine (reads_yes 300 2 0 _ [172, 2, 7] _ (rd_lit w2 [172, 2, 7] _ 3 rfl rfl (by decide) (by decide)) (by decide) (by decide) (by decide)).mono ?_
  rintro e w' ⟨rfl, rfl⟩
  have b3 : Below w.heap.size w (w2.alloc (.cells (vals [172, 2, 7]).toArray 5)) := b2.alloc b2.size _
  generalize w2.alloc (.cells (vals [172, 2, 7]).toArray 5) = w3 at *
  clear b2
  go_wp2_with fail
  refine (reads_yes 0 1 0 _ [0] _ (rd_lit w3 [0] _ 1 rfl rfl (by decide) (by decide)) (by decide) (by decide) (by decide)).mono ?_
  rintro e w' ⟨rfl, rfl⟩
  have b4 : Below w.heap.size w (w3.alloc (.cells (vals [0]).toArray 5)) := b3.alloc b3.size _
  generalize w3.alloc (.cells (vals [0]).toArray 5) = w4 at *
  clear b3
  go_wp2_with fail
  refine (reads_yes 0 0 3 _ [] _ (Rd.nil _ _) (by decide) (by decide) (by decide)).mono ?_
  rintro e w' ⟨rfl, rfl⟩
  go_wp2_with fail
  refine (reads_yes 0 0 3 _ [128] _ (rd_lit w4 [128] _ 1 rfl rfl (by decide) (by decide)) (by decide) (by decide) (by decide)).mono ?_
  rintro e w' ⟨rfl, rfl⟩
  have b5 : Below w.heap.size w (w4.alloc (.cells (vals [128]).toArray 5)) := b4.alloc b4.size _
  generalize w4.alloc (.cells (vals [128]).toArray 5) = w5 at *
  clear b4
  go_wp2_with fail
  refine (reads_yes 0 0 10 _ [128, 0] _ (rd_lit w5 [128, 0] _ 2 rfl rfl (by decide) (by decide)) (by decide) (by decide) (by decide)).mono ?_
  rintro e w' ⟨rfl, rfl⟩
  have b6 : Below w.heap.size w (w5.alloc (.cells (vals [128, 0]).toArray 5)) := b5.alloc b5.size _
  generalize w5.alloc (.cells (vals [128, 0]).toArray 5) = w6 at *
  clear b5
  go_wp2_with fail
  refine (reads_yes 18446744073709551615 10 0 _ [255, 255, 255, 255, 255, 255, 255, 255, 255, 1] _ (rd_lit w6 [255, 255, 255, 255, 255, 255, 255, 255, 255, 1] _ 10 rfl rfl (by decide) (by decide)) (by decide +kernel) (by decide +kernel) (by decide +kernel)).mono ?_
  rintro e w' ⟨rfl, rfl⟩
  have b7 : Below w.heap.size w (w6.alloc (.cells (vals [255, 255, 255, 255, 255, 255, 255, 255, 255, 1]).toArray 5)) := b6.alloc b6.size _
  generalize w6.alloc (.cells (vals [255, 255, 255, 255, 255, 255, 255, 255, 255, 1]).toArray 5) = w7 at *
  clear b6
  go_wp2_with fail
  refine (reads_yes 0 0 6 _ [255, 255, 255, 255, 255, 255, 255, 255, 255, 2] _ (rd_lit w7 [255, 255, 255, 255, 255, 255, 255, 255, 255, 2] _ 10 rfl rfl (by decide) (by decide)) (by decide +kernel) (by decide +kernel) (by decide +kernel)).mono ?_
  rintro e w' ⟨rfl, rfl⟩
  have b8 : Below w.heap.size w (w7.alloc (.cells (vals [255, 255, 255, 255, 255, 255, 255, 255, 255, 2]).toArray 5)) := b7.alloc b7.size _
  generalize w7.alloc (.cells (vals [255, 255, 255, 255, 255, 255, 255, 255, 255, 2]).toArray 5) = w8 at *
  clear b7
  go_wp2_with fail
  refine (getInt_is _ [5] _ (rd_lit w8 [5] _ 1 rfl rfl (by decide) (by decide)) (-3) 1 0 (by decide) (by decide) (by decide)).mono ?_
  rintro e w' ⟨rfl, rfl⟩
  have b9 : Below w.heap.size w (w8.alloc (.cells (vals [5]).toArray 5)) := b8.alloc b8.size _
  generalize w8.alloc (.cells (vals [5]).toArray 5) = w9 at *
  clear b8
  go_wp2_with fail
  refine (putInt _ [] (-3) _ (Rd.nil _ _) (by decide) (by decide) (by decide)).mono ?_
  rintro e w10 ⟨r2, rfl, ho2, hb2⟩
  have b10 : Below w.heap.size w w10 := up b9 hb2
  go_wp2_with fail
  refine (eq_yes r2 _ _ [5] _ (ho2.later (up_new _ _)).rd (rd_lit w10 [5] _ 1 rfl rfl (by decide) (by decide)) (by decide)).mono ?_
  rintro e w' ⟨rfl, rfl⟩
  go_wp2
  go_ret
  exact ⟨rfl, b10.alloc b10.size _⟩
end Go.Proofs.Ythnjadhheklofaa
