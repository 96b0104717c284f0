/- The walk of WideDoes. -/
import Derived.Test.YthlhfnafgjecaaaVar
import Derived.Test.YthlhfnafgjecaaaRint
import Derived.Test.YthlhfnafgjecaaaEqs
namespace Go.Proofs.Ythlhfnafgjecaaa
open Go.RowKit
set_option linter.unusedVariables false

/-- Two wide numbers and a pair, since W. -/
def VP (W : World) (a b c : Nat) (x y p1 p2 : Int) (w : World) : Prop := Below W.heap.size W w ∧ VW w a x ∧ VW w b y ∧ w.heap[c]? = some (.cells #[.int .i64 p1, .int .i64 p2] 28 (0, 0))
theorem VP.later {W w w' : World} {a b c : Nat} {x y p1 p2 : Int} (h : VP W a b c x y p1 p2 w) (hb : Below w.heap.size w w') : VP W a b c x y p1 p2 w' :=
  ⟨up h.1 hb, h.2.1.later hb, h.2.2.1.later hb, below_row hb h.2.2.2 (Nat.le_refl _)⟩
theorem VP.keep {W w : World} {a b c : Nat} {x y p1 p2 : Int} (h : VP W a b c x y p1 p2 w) : VP W a b c x y p1 p2 w ∧
    (w.cell? ⟨a, 0, none⟩ = some (.int .u64 (Wd.lo x)) ∧ w.cell? ⟨a, 1, none⟩ = some (.int .u64 (Wd.mi x)) ∧ w.cell? ⟨a, 2, none⟩ = some (.int .u64 (Wd.hi x))) ∧
    (w.cell? ⟨b, 0, none⟩ = some (.int .u64 (Wd.lo y)) ∧ w.cell? ⟨b, 1, none⟩ = some (.int .u64 (Wd.mi y)) ∧ w.cell? ⟨b, 2, none⟩ = some (.int .u64 (Wd.hi y))) ∧
    (w.cell? ⟨c, 0, none⟩ = some (.int .i64 p1) ∧ w.cell? ⟨c, 1, none⟩ = some (.int .i64 p2)) :=
  ⟨h, h.2.1.lie, h.2.2.1.lie, cell_of_row _ _ _ _ _ _ h.2.2.2, cell_of_row _ _ _ _ _ _ h.2.2.2⟩
theorem VP.start (w : World) (x y p1 p2 : Int) : VP w w.heap.size (w.heap.size + 1) (w.heap.size + 1 + 1) x y p1 p2
    (((w.alloc (.cells #[.int .u64 (Wd.lo x), .int .u64 (Wd.mi x), .int .u64 (Wd.hi x)] 25)).alloc (.cells #[.int .u64 (Wd.lo y), .int .u64 (Wd.mi y), .int .u64 (Wd.hi y)] 25)).alloc (.cells #[.int .i64 p1, .int .i64 p2] 28)) := by
  have e1 : (w.alloc (.cells #[.int .u64 (Wd.lo x), .int .u64 (Wd.mi x), .int .u64 (Wd.hi x)] 25)).heap.size = w.heap.size + 1 := by simp
  have e2 : ((w.alloc (.cells #[.int .u64 (Wd.lo x), .int .u64 (Wd.mi x), .int .u64 (Wd.hi x)] 25)).alloc (.cells #[.int .u64 (Wd.lo y), .int .u64 (Wd.mi y), .int .u64 (Wd.hi y)] 25)).heap.size = w.heap.size + 1 + 1 := by simp
  refine ⟨((up_new w _).alloc (by simp) _).alloc (by simp; omega) _, ((VW.last w x).later (up_new _ _)).later (up_new _ _), e1 ▸ (VW.last (w.alloc (.cells #[.int .u64 (Wd.lo x), .int .u64 (Wd.mi x), .int .u64 (Wd.hi x)] 25)) y).later (up_new _ _), ?_⟩
  have := Go.heap_alloc_last ((w.alloc (.cells #[.int .u64 (Wd.lo x), .int .u64 (Wd.mi x), .int .u64 (Wd.hi x)] 25)).alloc (.cells #[.int .u64 (Wd.lo y), .int .u64 (Wd.mi y), .int .u64 (Wd.hi y)] 25)) (.cells #[.int .i64 p1, .int .i64 p2] 28)
  rw [e2] at this
  exact this
set_option maxHeartbeats 16000000 in
set_option maxRecDepth 100000 in
theorem wideDoes (x y : Int) (q : Int × Int) (w : World) (hx : Wd.Sg x) (hy : Wd.Sg y) (hq : Pok q) :
    Calls Try.prog 5 #[wv x, wv y, .agg #[.int .i64 q.1, .int .i64 q.2]] w fun e w' => e = .returned (.bool true) ∧ Below w.heap.size w w' := by
  obtain ⟨n0, n1⟩ := q
  obtain ⟨⟨a0, a1⟩, b0, b1⟩ := hq
  simp only at a0 a1 b0 b1
  have H0 := Lib.hid (VP.start w x y n0 n1)
  have i0 := fun w => int_ x w hx
  have i1 := fun w => rint x w hx
  obtain ⟨c, hc⟩ : ∃ c, Wd.cmp x y = c := ⟨_, rfl⟩
  have k0 := fun w => compare x y c w hx hy hc
  have k1 := fun w => rcompare x y c w hx hy hc
  have s0 := fun w => six x w
  have s1 := fun w => six y w
  have o0 := fun w => of_ n0 w a0 a1
  have o1 := fun w => rof n0 w a0 a1
  have s2 := fun w => six n0 w
  have m0 := fun w => mul n0 n1 w a0 a1 b0 b1
  have m1 := fun w => rmul n0 n1 w a0 a1 b0 b1
  have s3 := fun w => six (n0 * n1) w
  have d0 := fun w => add x y w
  have d1 := fun w => radd x y _ w rfl
  have s4 := fun w => six (x + y) w
  have g0 := fun w => neg x w
  have g1 := fun w => rneg x _ w rfl
  have s5 := fun w => six (-x) w
  have heq : ∀ z w, (Op.equalIn 10000 43 (.agg (sr z)) (.agg (sr z))).run Try.prog w = .ok true w := fun z w => eq_six z w
  have heq2 := fun z w => eq_six z w
  clear hx hy hc a0 a1 b0 b1
  unfold wv wr at *
  generalize x + y = sxy at *
  generalize -x = nx at *
  generalize n0 * n1 = pr at *
  generalize Wd.ck x = kx at *
  generalize Wd.ce x = ex at *
  go_enter Try.func5, Try.ntmps5
  go_wp2_with fail
  generalize ((w.alloc (.cells #[.int .u64 (Wd.lo x), .int .u64 (Wd.mi x), .int .u64 (Wd.hi x)] 25)).alloc (.cells #[.int .u64 (Wd.lo y), .int .u64 (Wd.mi y), .int .u64 (Wd.hi y)] 25)).alloc (.cells #[.int .i64 n0, .int .i64 n1] 28) = W0 at *
  ((with_reducible refine (i0 _).mono ?_); rintro e w1 ⟨rfl, b1⟩)
  have H1 := Lib.hid (H0.out.later b1)
  obtain ⟨_, ⟨p0, p1, p2⟩, _⟩ := VP.keep H1.out
  clear b1 H0
  go_wp2_with fail
  ((with_reducible refine (s0 _).mono ?_); rintro e w2 ⟨rfl, b2⟩)
  have H2 := Lib.hid (H1.out.later b2)
  clear b2 p0 p1 p2 H1
  go_wp2_with fail
  ((with_reducible refine (i1 _).mono ?_); rintro e w3 ⟨rfl, b3⟩)
  have H3 := Lib.hid (H2.out.later b3)
  clear b3 H2 i0 i1
  go_wp2_with fail
  go_region_held3 (fun w' => VP w w.heap.size (w.heap.size + 1) (w.heap.size + 1 + 1) x y n0 n1 w' ∧
    (w'.cell? ⟨w.heap.size, 0, none⟩ = some (.int .u64 (Wd.lo x)) ∧ w'.cell? ⟨w.heap.size, 1, none⟩ = some (.int .u64 (Wd.mi x)) ∧ w'.cell? ⟨w.heap.size, 2, none⟩ = some (.int .u64 (Wd.hi x))) ∧
    (w'.cell? ⟨w.heap.size + 1, 0, none⟩ = some (.int .u64 (Wd.lo y)) ∧ w'.cell? ⟨w.heap.size + 1, 1, none⟩ = some (.int .u64 (Wd.mi y)) ∧ w'.cell? ⟨w.heap.size + 1, 2, none⟩ = some (.int .u64 (Wd.hi y))) ∧
    (w'.cell? ⟨w.heap.size + 1 + 1, 0, none⟩ = some (.int .i64 n0) ∧ w'.cell? ⟨w.heap.size + 1 + 1, 1, none⟩ = some (.int .i64 n1)))
    (first | exact VP.keep H3.out | exact VP.keep (VP.later H3.out ((Below.refl _ _).drew)) | exact VP.keep (VP.later (And.left (by assumption)) (by assumption)))
    (first
      | (go_at_call 21; (with_reducible refine (k0 _).mono ?_); rintro e w4 ⟨rfl, b4⟩)
      | (go_at_call 22; (with_reducible refine (k1 _).mono ?_); rintro e w4 ⟨rfl, b4⟩)
      | (go_at_call 20; (with_reducible refine (s0 _).mono ?_); rintro e w4 ⟨rfl, b4⟩)
      | (go_at_call 20; (with_reducible refine (s1 _).mono ?_); rintro e w4 ⟨rfl, b4⟩))
  have H4 := Lib.hid (And.left (by assumption : VP w w.heap.size (w.heap.size + 1) (w.heap.size + 1 + 1) x y n0 n1 _ ∧ _))
  clear H3 k0 k1
  go_wp2_with fail
  go_region_held3 (fun w' => VP w w.heap.size (w.heap.size + 1) (w.heap.size + 1 + 1) x y n0 n1 w' ∧
    (w'.cell? ⟨w.heap.size, 0, none⟩ = some (.int .u64 (Wd.lo x)) ∧ w'.cell? ⟨w.heap.size, 1, none⟩ = some (.int .u64 (Wd.mi x)) ∧ w'.cell? ⟨w.heap.size, 2, none⟩ = some (.int .u64 (Wd.hi x))) ∧
    (w'.cell? ⟨w.heap.size + 1, 0, none⟩ = some (.int .u64 (Wd.lo y)) ∧ w'.cell? ⟨w.heap.size + 1, 1, none⟩ = some (.int .u64 (Wd.mi y)) ∧ w'.cell? ⟨w.heap.size + 1, 2, none⟩ = some (.int .u64 (Wd.hi y))) ∧
    (w'.cell? ⟨w.heap.size + 1 + 1, 0, none⟩ = some (.int .i64 n0) ∧ w'.cell? ⟨w.heap.size + 1 + 1, 1, none⟩ = some (.int .i64 n1)))
    (first | exact VP.keep H4.out | exact VP.keep (VP.later H4.out ((Below.refl _ _).drew)) | exact VP.keep (VP.later (And.left (by assumption)) (by assumption)))
    (first
      | (go_at_call 23; (with_reducible refine (o0 _).mono ?_); rintro e w4 ⟨rfl, b4⟩)
      | (go_at_call 24; (with_reducible refine (o1 _).mono ?_); rintro e w4 ⟨rfl, b4⟩)
      | (go_at_call 25; (with_reducible refine (m0 _).mono ?_); rintro e w4 ⟨rfl, b4⟩)
      | (go_at_call 26; (with_reducible refine (m1 _).mono ?_); rintro e w4 ⟨rfl, b4⟩)
      | (go_at_call 27; (with_reducible refine (d0 _).mono ?_); rintro e w4 ⟨rfl, b4⟩)
      | (go_at_call 28; (with_reducible refine (d1 _).mono ?_); rintro e w4 ⟨rfl, b4⟩)
      | (go_at_call 9; (with_reducible refine (g0 _).mono ?_); rintro e w4 ⟨rfl, b4⟩)
      | (go_at_call 29; (with_reducible refine (g1 _).mono ?_); rintro e w4 ⟨rfl, b4⟩)
      | (go_at_call 11; (with_reducible refine (works _).mono ?_); rintro e w4 ⟨rfl, b4⟩)
      | (go_at_call 20; (with_reducible refine (s0 _).mono ?_); rintro e w4 ⟨rfl, b4⟩)
      | (go_at_call 20; (with_reducible refine (s1 _).mono ?_); rintro e w4 ⟨rfl, b4⟩)
      | (go_at_call 20; (with_reducible refine (s2 _).mono ?_); rintro e w4 ⟨rfl, b4⟩)
      | (go_at_call 20; (with_reducible refine (s3 _).mono ?_); rintro e w4 ⟨rfl, b4⟩)
      | (go_at_call 20; (with_reducible refine (s4 _).mono ?_); rintro e w4 ⟨rfl, b4⟩)
      | (go_at_call 20; (with_reducible refine (s5 _).mono ?_); rintro e w4 ⟨rfl, b4⟩))
  have H5 := Lib.hid (And.left (by assumption : VP w w.heap.size (w.heap.size + 1) (w.heap.size + 1 + 1) x y n0 n1 _ ∧ _))
  clear H4
  go_wp2
  go_ret
  exact ⟨rfl, H5.out.1⟩
end Go.Proofs.Ythlhfnafgjecaaa
