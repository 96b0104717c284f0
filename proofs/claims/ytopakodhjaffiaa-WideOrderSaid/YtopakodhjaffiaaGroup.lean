/- The walk of WideGroup. -/
import Derived.Test.YtopakodhjaffiaaWorks
import Derived.Deep.RegionHeld3
namespace Go.Proofs.Ytopakodhjaffiaa
open Go.RowKit
set_option linter.unusedVariables false

/-- A variable that is a wide number. -/
def VW (w : World) (g : Nat) (z : Int) : Prop := w.heap[g]? = some (.cells #[.int .u64 (Wd.lo z), .int .u64 (Wd.mi z), .int .u64 (Wd.hi z)] 24 (0, 0))
theorem VW.later {w w' : World} {g : Nat} {z : Int} (h : VW w g z) (hb : Below w.heap.size w w') : VW w' g z := below_row hb h (Nat.le_refl _)
theorem VW.last (w : World) (z : Int) : VW (w.alloc (.cells #[.int .u64 (Wd.lo z), .int .u64 (Wd.mi z), .int .u64 (Wd.hi z)] 24)) w.heap.size z := Go.heap_alloc_last w _
theorem VW.lie {w : World} {g : Nat} {z : Int} (h : VW w g z) : w.cell? ⟨g, 0, none⟩ = some (.int .u64 (Wd.lo z)) ∧ w.cell? ⟨g, 1, none⟩ = some (.int .u64 (Wd.mi z)) ∧ w.cell? ⟨g, 2, none⟩ = some (.int .u64 (Wd.hi z)) :=
  ⟨cell_of_row _ _ _ _ _ _ h, cell_of_row _ _ _ _ _ _ h, cell_of_row _ _ _ _ _ _ h⟩
/-- Four such variables, since W. -/
def V4 (W : World) (a b c d : Nat) (x y z s : Int) (w : World) : Prop := Below W.heap.size W w ∧ VW w a x ∧ VW w b y ∧ VW w c z ∧ VW w d s
theorem V4.later {W w w' : World} {a b c d : Nat} {x y z s : Int} (h : V4 W a b c d x y z s w) (hb : Below w.heap.size w w') : V4 W a b c d x y z s w' :=
  ⟨up h.1 hb, h.2.1.later hb, h.2.2.1.later hb, h.2.2.2.1.later hb, h.2.2.2.2.later hb⟩
theorem V4.keep {W w : World} {a b c d : Nat} {x y z s : Int} (h : V4 W a b c d x y z s w) : V4 W a b c d x y z s w ∧
    (w.cell? ⟨a, 0, none⟩ = some (.int .u64 (Wd.lo x)) ∧ w.cell? ⟨a, 1, none⟩ = some (.int .u64 (Wd.mi x)) ∧ w.cell? ⟨a, 2, none⟩ = some (.int .u64 (Wd.hi x))) ∧
    (w.cell? ⟨b, 0, none⟩ = some (.int .u64 (Wd.lo y)) ∧ w.cell? ⟨b, 1, none⟩ = some (.int .u64 (Wd.mi y)) ∧ w.cell? ⟨b, 2, none⟩ = some (.int .u64 (Wd.hi y))) ∧
    (w.cell? ⟨c, 0, none⟩ = some (.int .u64 (Wd.lo z)) ∧ w.cell? ⟨c, 1, none⟩ = some (.int .u64 (Wd.mi z)) ∧ w.cell? ⟨c, 2, none⟩ = some (.int .u64 (Wd.hi z))) ∧
    (w.cell? ⟨d, 0, none⟩ = some (.int .u64 (Wd.lo s)) ∧ w.cell? ⟨d, 1, none⟩ = some (.int .u64 (Wd.mi s)) ∧ w.cell? ⟨d, 2, none⟩ = some (.int .u64 (Wd.hi s))) :=
  ⟨h, h.2.1.lie, h.2.2.1.lie, h.2.2.2.1.lie, h.2.2.2.2.lie⟩
set_option maxHeartbeats 16000000 in
set_option maxRecDepth 100000 in
theorem wideGroup (x y z : Int) (w : World) (hx : Wd.Sg x) (hy : Wd.Sg y) (hz : Wd.Sg z) :
    Calls Try.prog 6 #[wv x, wv y, wv z] w fun e w' => e = .returned (.bool true) ∧ Below w.heap.size w w' := by
  have c0 := fun w => add_is x y (x + y) w rfl
  have c1 := fun w => add_is y x (x + y) w (by omega)
  have c2 := fun w => add_is (x + y) z (x + y + z) w rfl
  have c3 := fun w => add_is y z (y + z) w rfl
  have c4 := fun w => add_is x (y + z) (x + y + z) w (by omega)
  have c5 := fun w => neg y w
  have c6 := fun w => add_is (x + y) (-y) x w (by omega)
  have c7 := fun w => neg x w
  have c8 := fun w => neg_is (-x) x w (by omega)
  have c9 := fun w => add_is x (-x) 0 w (by omega)
  have c10 := fun w => of_ 0 w (by omega) (by omega)
  have c11 := fun w => add_is x 0 x w (by omega)
  have z0 : wv 0 = .agg #[.int .u64 0, .int .u64 0, .int .u64 0] := by kernel_rfl
  rw [z0] at c9 c10 c11
  unfold wv wr at *
  generalize hs : x + y = s at *
  generalize s + z = t at *
  generalize y + z = u at *
  generalize -y = ny at *
  generalize -x = nx at *
  clear z0 hs hx hy hz
  go_enter Try.func6, Try.ntmps6
  go_wp2_with fail
  ((with_reducible refine (c0 _).mono ?_); rintro e w1 ⟨rfl, b1⟩)
  have H0 : Hid (V4 w w.heap.size (w.heap.size + 1) (w.heap.size + 1 + 1) w1.heap.size x y z s (w1.alloc (.cells #[.int .u64 (Wd.lo s), .int .u64 (Wd.mi s), .int .u64 (Wd.hi s)] 24))) := Lib.hid (by
    have B := (((up_new w (.cells #[.int .u64 (Wd.lo x), .int .u64 (Wd.mi x), .int .u64 (Wd.hi x)] 24)).alloc (by simp) (.cells #[.int .u64 (Wd.lo y), .int .u64 (Wd.mi y), .int .u64 (Wd.hi y)] 24)).alloc (by simp; omega) (.cells #[.int .u64 (Wd.lo z), .int .u64 (Wd.mi z), .int .u64 (Wd.hi z)] 24))
    have r0 := ((VW.last w x).later (up_new _ (.cells #[.int .u64 (Wd.lo y), .int .u64 (Wd.mi y), .int .u64 (Wd.hi y)] 24))).later (up_new _ (.cells #[.int .u64 (Wd.lo z), .int .u64 (Wd.mi z), .int .u64 (Wd.hi z)] 24))
    have r1 := (VW.last (w.alloc (.cells #[.int .u64 (Wd.lo x), .int .u64 (Wd.mi x), .int .u64 (Wd.hi x)] 24)) y).later (up_new _ (.cells #[.int .u64 (Wd.lo z), .int .u64 (Wd.mi z), .int .u64 (Wd.hi z)] 24))
    have r2 := VW.last ((w.alloc (.cells #[.int .u64 (Wd.lo x), .int .u64 (Wd.mi x), .int .u64 (Wd.hi x)] 24)).alloc (.cells #[.int .u64 (Wd.lo y), .int .u64 (Wd.mi y), .int .u64 (Wd.hi y)] 24)) z
    have e1 : (w.alloc (.cells #[.int .u64 (Wd.lo x), .int .u64 (Wd.mi x), .int .u64 (Wd.hi x)] 24)).heap.size = w.heap.size + 1 := by simp
    have e2 : ((w.alloc (.cells #[.int .u64 (Wd.lo x), .int .u64 (Wd.mi x), .int .u64 (Wd.hi x)] 24)).alloc (.cells #[.int .u64 (Wd.lo y), .int .u64 (Wd.mi y), .int .u64 (Wd.hi y)] 24)).heap.size = w.heap.size + 1 + 1 := by simp
    rw [e1] at r1
    rw [e2] at r2
    have hn := up_new w1 (.cells #[.int .u64 (Wd.lo s), .int .u64 (Wd.mi s), .int .u64 (Wd.hi s)] 24)
    exact ⟨up (up B b1) hn, (r0.later b1).later hn, (r1.later b1).later hn, (r2.later b1).later hn, VW.last w1 s⟩)
  clear b1
  go_wp2_with fail
  generalize w1.alloc (.cells #[.int .u64 (Wd.lo s), .int .u64 (Wd.mi s), .int .u64 (Wd.hi s)] 24) = W0 at *
  generalize w1.heap.size = gs at *
  go_region_held3 (fun w' => V4 w w.heap.size (w.heap.size + 1) (w.heap.size + 1 + 1) gs x y z s w' ∧
    (w'.cell? ⟨w.heap.size, 0, none⟩ = some (.int .u64 (Wd.lo x)) ∧ w'.cell? ⟨w.heap.size, 1, none⟩ = some (.int .u64 (Wd.mi x)) ∧ w'.cell? ⟨w.heap.size, 2, none⟩ = some (.int .u64 (Wd.hi x))) ∧
    (w'.cell? ⟨w.heap.size + 1, 0, none⟩ = some (.int .u64 (Wd.lo y)) ∧ w'.cell? ⟨w.heap.size + 1, 1, none⟩ = some (.int .u64 (Wd.mi y)) ∧ w'.cell? ⟨w.heap.size + 1, 2, none⟩ = some (.int .u64 (Wd.hi y))) ∧
    (w'.cell? ⟨w.heap.size + 1 + 1, 0, none⟩ = some (.int .u64 (Wd.lo z)) ∧ w'.cell? ⟨w.heap.size + 1 + 1, 1, none⟩ = some (.int .u64 (Wd.mi z)) ∧ w'.cell? ⟨w.heap.size + 1 + 1, 2, none⟩ = some (.int .u64 (Wd.hi z))) ∧
    (w'.cell? ⟨gs, 0, none⟩ = some (.int .u64 (Wd.lo s)) ∧ w'.cell? ⟨gs, 1, none⟩ = some (.int .u64 (Wd.mi s)) ∧ w'.cell? ⟨gs, 2, none⟩ = some (.int .u64 (Wd.hi s))))
    (first | exact V4.keep H0.out | exact V4.keep (V4.later H0.out ((Below.refl _ _).drew)) | exact V4.keep (V4.later (And.left (by assumption)) (by assumption)))
    (first
      | (go_at_call 21; (with_reducible refine (c1 _).mono ?_); rintro e w2 ⟨rfl, b2⟩)
      | (go_at_call 21; (with_reducible refine (c2 _).mono ?_); rintro e w2 ⟨rfl, b2⟩)
      | (go_at_call 21; (with_reducible refine (c3 _).mono ?_); rintro e w2 ⟨rfl, b2⟩)
      | (go_at_call 21; (with_reducible refine (c4 _).mono ?_); rintro e w2 ⟨rfl, b2⟩)
      | (go_at_call 21; (with_reducible refine (c6 _).mono ?_); rintro e w2 ⟨rfl, b2⟩)
      | (go_at_call 23; (with_reducible refine (c5 _).mono ?_); rintro e w2 ⟨rfl, b2⟩))
  have H1 := Lib.hid (And.left (by assumption : V4 w w.heap.size (w.heap.size + 1) (w.heap.size + 1 + 1) gs x y z s _ ∧ _))
  clear H0 c1 c2 c3 c4 c5 c6
  go_wp2_with fail
  go_region_held3 (fun w' => V4 w w.heap.size (w.heap.size + 1) (w.heap.size + 1 + 1) gs x y z s w' ∧
    (w'.cell? ⟨w.heap.size, 0, none⟩ = some (.int .u64 (Wd.lo x)) ∧ w'.cell? ⟨w.heap.size, 1, none⟩ = some (.int .u64 (Wd.mi x)) ∧ w'.cell? ⟨w.heap.size, 2, none⟩ = some (.int .u64 (Wd.hi x))) ∧
    (w'.cell? ⟨w.heap.size + 1, 0, none⟩ = some (.int .u64 (Wd.lo y)) ∧ w'.cell? ⟨w.heap.size + 1, 1, none⟩ = some (.int .u64 (Wd.mi y)) ∧ w'.cell? ⟨w.heap.size + 1, 2, none⟩ = some (.int .u64 (Wd.hi y))) ∧
    (w'.cell? ⟨w.heap.size + 1 + 1, 0, none⟩ = some (.int .u64 (Wd.lo z)) ∧ w'.cell? ⟨w.heap.size + 1 + 1, 1, none⟩ = some (.int .u64 (Wd.mi z)) ∧ w'.cell? ⟨w.heap.size + 1 + 1, 2, none⟩ = some (.int .u64 (Wd.hi z))) ∧
    (w'.cell? ⟨gs, 0, none⟩ = some (.int .u64 (Wd.lo s)) ∧ w'.cell? ⟨gs, 1, none⟩ = some (.int .u64 (Wd.mi s)) ∧ w'.cell? ⟨gs, 2, none⟩ = some (.int .u64 (Wd.hi s))))
    (first | exact V4.keep H1.out | exact V4.keep (V4.later H1.out ((Below.refl _ _).drew)) | exact V4.keep (V4.later (And.left (by assumption)) (by assumption)))
    (first
      | (go_at_call 21; (with_reducible refine (c9 _).mono ?_); rintro e w2 ⟨rfl, b2⟩)
      | (go_at_call 21; (with_reducible refine (c11 _).mono ?_); rintro e w2 ⟨rfl, b2⟩)
      | (go_at_call 17; (with_reducible refine (c10 _).mono ?_); rintro e w2 ⟨rfl, b2⟩)
      | (go_at_call 23; (with_reducible refine (c7 _).mono ?_); rintro e w2 ⟨rfl, b2⟩)
      | (go_at_call 23; (with_reducible refine (c8 _).mono ?_); rintro e w2 ⟨rfl, b2⟩)
      | (go_at_call 25; (with_reducible refine (works _).mono ?_); rintro e w2 ⟨rfl, b2⟩))
  have H2 := Lib.hid (And.left (by assumption : V4 w w.heap.size (w.heap.size + 1) (w.heap.size + 1 + 1) gs x y z s _ ∧ _))
  clear H1 c7 c8 c9 c10 c11
  go_wp2
  go_ret
  exact ⟨rfl, H2.out.1⟩
end Go.Proofs.Ytopakodhjaffiaa
