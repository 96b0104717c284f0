/- CellOrder's walk: Compare is an order of all cells. -/
import Derived.Test.YtffdgcdmbccodaaGreatDoorClCut
import Derived.Test.YtffdgcdmbccodaaGreatDoorQuietTail
import Derived.Lib.QuietBelow
namespace Go.Proofs.YtffdgcdmbccodaaGreatDoor
open Go.RowKit Go.Sort
set_option linter.unusedVariables false
set_option maxRecDepth 100000

/-- Three cells, each in a variable of its own, behind all that was there. -/
structure C3 (w0 : World) (a b c : Cl.C) (w : World) : Prop where
  a : CV w w0.heap.size a
  b : CV w (w0.heap.size + 1) b
  c : CV w (w0.heap.size + 1 + 1) c
  l : Below w0.heap.size w0 w
theorem C3.later {w0 w w' : World} {a b c : Cl.C} (h : C3 w0 a b c w) (hb : Below w.heap.size w w') : C3 w0 a b c w' := ⟨h.a.later hb, h.b.later hb, h.c.later hb, up h.l hb⟩
theorem cells3 (w : World) (a b c : Cl.C) : let X := ((w.alloc (.cells #[.bool a.u, .int .i64 a.n, .string a.s] 48)).alloc (.cells #[.bool b.u, .int .i64 b.n, .string b.s] 48)).alloc (.cells #[.bool c.u, .int .i64 c.n, .string c.s] 48)
    CV X w.heap.size a ∧ CV X (w.heap.size + 1) b ∧ CV X (w.heap.size + 1 + 1) c ∧ Below w.heap.size w X := by
  intro X
  have h1 := CV.new w a.u a.n a.s
  have h2 := CV.new (w.alloc (.cells #[.bool a.u, .int .i64 a.n, .string a.s] 48)) b.u b.n b.s
  have h3 := CV.new ((w.alloc (.cells #[.bool a.u, .int .i64 a.n, .string a.s] 48)).alloc (.cells #[.bool b.u, .int .i64 b.n, .string b.s] 48)) c.u c.n c.s
  rw [show (w.alloc (.cells #[.bool a.u, .int .i64 a.n, .string a.s] 48)).heap.size = w.heap.size + 1 by simp] at h2
  rw [show ((w.alloc (.cells #[.bool a.u, .int .i64 a.n, .string a.s] 48)).alloc (.cells #[.bool b.u, .int .i64 b.n, .string b.s] 48)).heap.size = w.heap.size + 1 + 1 by simp] at h3
  exact ⟨(h1.later (box_new _ _)).later (box_new _ _), h2.later (box_new _ _), h3, ((box_new w _).alloc (by simp) _).alloc (by simp; omega) _⟩
theorem put9 {w w5 : World} {a b c : Cl.C} (B : Below w.heap.size w w5) (A0 : CV w5 w.heap.size a) (A1 : CV w5 (w.heap.size + 1) b) (A2 : CV w5 (w.heap.size + 1 + 1) c) (a1 : Bool) (a2 : Int) (a3 : ByteArray) (b1 : Bool) (b2 : Int) (b3 : ByteArray) (c1 : Bool) (c2 : Int) (c3 : ByteArray) :
    C3 w ⟨a1, a2, a3⟩ ⟨b1, b2, b3⟩ ⟨c1, c2, c3⟩ (((((((((w5.setCell ⟨w.heap.size, 0, none⟩ (.bool a1)).setCell ⟨w.heap.size, 1, none⟩ (.int .i64 a2)).setCell ⟨w.heap.size, 2, none⟩ (.string a3)).setCell ⟨w.heap.size + 1, 0, none⟩ (.bool b1)).setCell ⟨w.heap.size + 1, 1, none⟩ (.int .i64 b2)).setCell ⟨w.heap.size + 1, 2, none⟩ (.string b3)).setCell ⟨w.heap.size + 1 + 1, 0, none⟩ (.bool c1)).setCell ⟨w.heap.size + 1 + 1, 1, none⟩ (.int .i64 c2)).setCell ⟨w.heap.size + 1 + 1, 2, none⟩ (.string c3)) :=
  ⟨((A0.put _ _ _).past (by omega) _ _ _).past (by omega) _ _ _, ((A1.past (by omega) _ _ _).put _ _ _).past (by omega) _ _ _, ((A2.past (by omega) _ _ _).past (by omega) _ _ _).put _ _ _,
   put_below (by omega) (put_below (by omega) (put_below (Nat.le_refl _) B _ _ _) _ _ _) _ _ _⟩
theorem gc3 {w : World} {k : Nat} {c : Cl.C} (h : CV w k c) : gc w ⟨k, 0, none⟩ = .bool c.u ∧ gc w ⟨k, 1, none⟩ = .int .i64 c.n ∧ gc w ⟨k, 2, none⟩ = .string c.s := ⟨gc_of h.lie.1, gc_of h.lie.2.1, gc_of h.lie.2.2⟩
set_option maxHeartbeats 8000000 in
theorem cellOrder (a b c : Cl.C) (w : World) (ai : Cl.I64 a.n) (am : a.s.size ≤ maxLen) (bi : Cl.I64 b.n) (bm : b.s.size ≤ maxLen) (ci : Cl.I64 c.n) (cm : c.s.size ≤ maxLen) (T : TA w) :
    Calls Tryz.prog 11 #[cv a, cv b, cv c] w fun e w' => e = .returned (.bool true) ∧ Below w.heap.size w w' := by
  have TW := Lib.hid (fun w1 (hb : Below w.heap.size w w1) => T.later hb)
  have CW := Lib.hid (fun w1 (hb : Below w.heap.size w w1) => works w1 (TW.out w1 hb))
  obtain ⟨a', ha⟩ : ∃ d, cutC a = d := ⟨_, rfl⟩
  obtain ⟨b', hb⟩ : ∃ d, cutC b = d := ⟨_, rfl⟩
  obtain ⟨c', hc⟩ : ∃ d, cutC c = d := ⟨_, rfl⟩
  have LA := Lib.hid (fun w => lCut a a' w am ha)
  have LB := Lib.hid (fun w => lCut b b' w bm hb)
  have LC := Lib.hid (fun w => lCut c c' w cm hc)
  have H3 := Lib.hid (cells3 w a b c)
  clear ai am bi bm ci cm ha hb hc T
  obtain ⟨au, an, at_⟩ := a
  obtain ⟨bu, bn, bs⟩ := b
  obtain ⟨cu, cn, cs⟩ := c
  unfold cv at LA LB LC ⊢
  simp only at LA LB LC H3 ⊢
  go_enter Tryz.func11, Tryz.ntmps11
  go_wp2_with fail
  generalize ((w.alloc (.cells #[.bool au, .int .i64 an, .string at_] 48)).alloc (.cells #[.bool bu, .int .i64 bn, .string bs] 48)).alloc (.cells #[.bool cu, .int .i64 cn, .string cs] 48) = wb at *
  obtain ⟨U0, U1, U2, D0⟩ := H3.out
  have V0 := Lib.hid U0
  have V1 := Lib.hid U1
  have V2 := Lib.hid U2
  have B0 := Lib.hid D0
  clear H3 U0 U1 U2 D0
  have kA : ∀ d os, _ := fun d os => (V0.out.later (below_regrown wb d os)).lie
  have kB : ∀ d os, _ := fun d os => (V1.out.later (below_regrown wb d os)).lie
  have kC : ∀ d os, _ := fun d os => (V2.out.later (below_regrown wb d os)).lie
  simp only at kA kB kC
  obtain ⟨a1, a2, a3⟩ := a'
  obtain ⟨b1, b2, b3⟩ := b'
  obtain ⟨c1, c2, c3⟩ := c'
  simp only at LA LB LC
  have cA := fun d os => Calls.regrown_of (LA.out (grow (redrawn wb d) os))
  have cB := fun d os => Calls.regrown_of (LB.out (grow (redrawn wb d) os))
  have cC := fun d os => Calls.regrown_of (LC.out (grow (redrawn wb d) os))
  have cA := Lib.hid cA
  have cB := Lib.hid cB
  have cC := Lib.hid cC
  refine wp_region_quiet_tail (C := fun w' => ∃ p : Regrown, w' = grow (redrawn wb p.d) p.os) 6 (by kernel_rfl) (by kernel_rfl) ⟨⟨wb.drawn + 1, #[]⟩, by rw [grow_empty]; rfl⟩ ?_
  simp only [List.take_succ_cons, List.take_zero, List.drop_succ_cons, List.drop_zero]
  iterate 6 (quiet_step (first | with_reducible exact cA.out _ _ | with_reducible exact cB.out _ _ | with_reducible exact cC.out _ _))
  refine wpQuiet_nil ?_
  intro w5 hw5
  have b5 : Below wb.heap.size wb w5 := by obtain ⟨p, rfl⟩ := hw5; exact below_regrown _ _ _
  clear hw5 kA kB kC cA cB cC LA LB LC
  have P9 := Lib.hid (put9 (up B0.out b5) (V0.out.later b5) (V1.out.later b5) (V2.out.later b5) a1 a2 a3 b1 b2 b3 c1 c2 c3)
  obtain ⟨x0, x1, x2⟩ := (V0.out.later b5).lie
  obtain ⟨y0, y1, y2⟩ := (V1.out.later b5).lie
  obtain ⟨z0, z1, z2⟩ := (V2.out.later b5).lie
  obtain ⟨f0, f1, f2⟩ := (V0.out.later b5).free
  obtain ⟨g0, g1, g2⟩ := (V1.out.later b5).free
  obtain ⟨h0, h1, h2⟩ := (V2.out.later b5).free
  simp only at x0 x1 x2 y0 y1 y2 z0 z1 z2
  clear b5 V0 V1 V2 B0
  go_wp2_with fail
  obtain ⟨w9, h9⟩ : ∃ w9, (((((((((w5.setCell ⟨w.heap.size, 0, none⟩ (.bool a1)).setCell ⟨w.heap.size, 1, none⟩ (.int .i64 a2)).setCell ⟨w.heap.size, 2, none⟩ (.string a3)).setCell ⟨w.heap.size + 1, 0, none⟩ (.bool b1)).setCell ⟨w.heap.size + 1, 1, none⟩ (.int .i64 b2)).setCell ⟨w.heap.size + 1, 2, none⟩ (.string b3)).setCell ⟨w.heap.size + 1 + 1, 0, none⟩ (.bool c1)).setCell ⟨w.heap.size + 1 + 1, 1, none⟩ (.int .i64 c2)).setCell ⟨w.heap.size + 1 + 1, 2, none⟩ (.string c3)) = w9 := ⟨_, rfl⟩
  rw [h9] at P9 ⊢
  clear h9 x0 x1 x2 y0 y1 y2 z0 z1 z2 f0 f1 f2 g0 g1 g2 h0 h1 h2
  have R1 := Cl.cmp_range ⟨a1, a2, a3⟩ ⟨b1, b2, b3⟩
  have N1 := Cl.cmp_neg ⟨b1, b2, b3⟩ ⟨a1, a2, a3⟩
  have Z1 := Cl.cmp_zero ⟨a1, a2, a3⟩ ⟨b1, b2, b3⟩
  have R2 := Cl.cmp_range ⟨b1, b2, b3⟩ ⟨c1, c2, c3⟩
  have R3 := Cl.cmp_range ⟨a1, a2, a3⟩ ⟨c1, c2, c3⟩
  have T3 := Cl.cmp_trans ⟨a1, a2, a3⟩ ⟨b1, b2, b3⟩ ⟨c1, c2, c3⟩
  have M1 := Lib.hid (fun w => cCompare ⟨a1, a2, a3⟩ ⟨b1, b2, b3⟩ w _ rfl)
  have M2 := Lib.hid (fun w => cCompare ⟨b1, b2, b3⟩ ⟨a1, a2, a3⟩ w _ rfl)
  have M3 := Lib.hid (fun w => cCompare ⟨b1, b2, b3⟩ ⟨c1, c2, c3⟩ w _ rfl)
  have M4 := Lib.hid (fun w => cCompare ⟨a1, a2, a3⟩ ⟨c1, c2, c3⟩ w _ rfl)
  rw [N1] at M2
  clear N1
  have E1 := fun w => run_eqc ⟨a1, a2, a3⟩ ⟨b1, b2, b3⟩ w
  rw [eqc_dec ⟨a1, a2, a3⟩ ⟨b1, b2, b3⟩ (decide (Cl.cmp ⟨a1, a2, a3⟩ ⟨b1, b2, b3⟩ = 0)) (by rw [decide_eq_true_eq]; exact Z1)] at E1
  clear Z1
  obtain ⟨r1, h1⟩ : ∃ r, Cl.cmp ⟨a1, a2, a3⟩ ⟨b1, b2, b3⟩ = r := ⟨_, rfl⟩
  obtain ⟨r2, h2⟩ : ∃ r, Cl.cmp ⟨b1, b2, b3⟩ ⟨c1, c2, c3⟩ = r := ⟨_, rfl⟩
  obtain ⟨r3, h3⟩ : ∃ r, Cl.cmp ⟨a1, a2, a3⟩ ⟨c1, c2, c3⟩ = r := ⟨_, rfl⟩
  rw [h1] at R1 M1 M2 T3 E1
  rw [h2] at R2 M3 T3
  rw [h3] at R3 M4 T3
  clear h1 h2 h3
  unfold cv at M1 M2 M3 M4 E1
  simp only at M1 M2 M3 M4 E1
  obtain ⟨x0, x1, x2⟩ := P9.out.a.lie
  obtain ⟨y0, y1, y2⟩ := P9.out.b.lie
  obtain ⟨z0, z1, z2⟩ := P9.out.c.lie
  have R : r1 = 1 ∨ (r1 = -1 ∨ r1 = 0) ∧ (r2 = 1 ∨ (r2 = -1 ∨ r2 = 0) ∧ (r3 = -1 ∨ r3 = 0)) := by omega
  clear R1 R2 R3 T3
  rcases R with rfl | ⟨rfl | rfl, rfl | ⟨rfl | rfl, rfl | rfl⟩⟩
  · simp at M2 E1
    ((with_reducible refine (M1.out _).mono ?_); rintro e w10 ⟨rfl, b10⟩)
    have P10 := Lib.hid (P9.out.later b10)
    clear b10 x0 x1 x2 y0 y1 y2 z0 z1 z2
    obtain ⟨x0, x1, x2⟩ := P10.out.a.lie
    obtain ⟨y0, y1, y2⟩ := P10.out.b.lie
    obtain ⟨z0, z1, z2⟩ := P10.out.c.lie
    simp only at x0 x1 x2 y0 y1 y2 z0 z1 z2
    go_wp2_with fail
    ((with_reducible refine (M2.out _).mono ?_); rintro e w11 ⟨rfl, b11⟩)
    have P11 := Lib.hid (P10.out.later b11)
    clear b11 x0 x1 x2 y0 y1 y2 z0 z1 z2
    obtain ⟨x0, x1, x2⟩ := P11.out.a.lie
    obtain ⟨y0, y1, y2⟩ := P11.out.b.lie
    obtain ⟨z0, z1, z2⟩ := P11.out.c.lie
    simp only at x0 x1 x2 y0 y1 y2 z0 z1 z2
    go_wp2_with fail
    ((with_reducible refine (CW.out _ P11.out.l).mono ?_); rintro e wz ⟨rfl, bz⟩)
    have BZ := Lib.hid (up P11.out.l bz)
    clear bz
    go_wp2_with fail
    go_ret
    exact ⟨rfl, BZ.out⟩
  · simp at M2 E1
    ((with_reducible refine (M1.out _).mono ?_); rintro e w10 ⟨rfl, b10⟩)
    have P10 := Lib.hid (P9.out.later b10)
    clear b10 x0 x1 x2 y0 y1 y2 z0 z1 z2
    obtain ⟨x0, x1, x2⟩ := P10.out.a.lie
    obtain ⟨y0, y1, y2⟩ := P10.out.b.lie
    obtain ⟨z0, z1, z2⟩ := P10.out.c.lie
    simp only at x0 x1 x2 y0 y1 y2 z0 z1 z2
    go_wp2_with fail
    ((with_reducible refine (M2.out _).mono ?_); rintro e w11 ⟨rfl, b11⟩)
    have P11 := Lib.hid (P10.out.later b11)
    clear b11 x0 x1 x2 y0 y1 y2 z0 z1 z2
    obtain ⟨x0, x1, x2⟩ := P11.out.a.lie
    obtain ⟨y0, y1, y2⟩ := P11.out.b.lie
    obtain ⟨z0, z1, z2⟩ := P11.out.c.lie
    simp only at x0 x1 x2 y0 y1 y2 z0 z1 z2
    go_wp2_with fail
    ((with_reducible refine (M3.out _).mono ?_); rintro e w12 ⟨rfl, b12⟩)
    have P12 := Lib.hid (P11.out.later b12)
    clear b12 x0 x1 x2 y0 y1 y2 z0 z1 z2
    obtain ⟨x0, x1, x2⟩ := P12.out.a.lie
    obtain ⟨y0, y1, y2⟩ := P12.out.b.lie
    obtain ⟨z0, z1, z2⟩ := P12.out.c.lie
    simp only at x0 x1 x2 y0 y1 y2 z0 z1 z2
    go_wp2_with fail
    ((with_reducible refine (CW.out _ P12.out.l).mono ?_); rintro e wz ⟨rfl, bz⟩)
    have BZ := Lib.hid (up P12.out.l bz)
    clear bz
    go_wp2_with fail
    go_ret
    exact ⟨rfl, BZ.out⟩
  · simp at M2 E1
    ((with_reducible refine (M1.out _).mono ?_); rintro e w10 ⟨rfl, b10⟩)
    have P10 := Lib.hid (P9.out.later b10)
    clear b10 x0 x1 x2 y0 y1 y2 z0 z1 z2
    obtain ⟨x0, x1, x2⟩ := P10.out.a.lie
    obtain ⟨y0, y1, y2⟩ := P10.out.b.lie
    obtain ⟨z0, z1, z2⟩ := P10.out.c.lie
    simp only at x0 x1 x2 y0 y1 y2 z0 z1 z2
    go_wp2_with fail
    ((with_reducible refine (M2.out _).mono ?_); rintro e w11 ⟨rfl, b11⟩)
    have P11 := Lib.hid (P10.out.later b11)
    clear b11 x0 x1 x2 y0 y1 y2 z0 z1 z2
    obtain ⟨x0, x1, x2⟩ := P11.out.a.lie
    obtain ⟨y0, y1, y2⟩ := P11.out.b.lie
    obtain ⟨z0, z1, z2⟩ := P11.out.c.lie
    simp only at x0 x1 x2 y0 y1 y2 z0 z1 z2
    go_wp2_with fail
    ((with_reducible refine (M3.out _).mono ?_); rintro e w12 ⟨rfl, b12⟩)
    have P12 := Lib.hid (P11.out.later b12)
    clear b12 x0 x1 x2 y0 y1 y2 z0 z1 z2
    obtain ⟨x0, x1, x2⟩ := P12.out.a.lie
    obtain ⟨y0, y1, y2⟩ := P12.out.b.lie
    obtain ⟨z0, z1, z2⟩ := P12.out.c.lie
    simp only at x0 x1 x2 y0 y1 y2 z0 z1 z2
    go_wp2_with fail
    ((with_reducible refine (M4.out _).mono ?_); rintro e w13 ⟨rfl, b13⟩)
    have P13 := Lib.hid (P12.out.later b13)
    clear b13 x0 x1 x2 y0 y1 y2 z0 z1 z2
    obtain ⟨x0, x1, x2⟩ := P13.out.a.lie
    obtain ⟨y0, y1, y2⟩ := P13.out.b.lie
    obtain ⟨z0, z1, z2⟩ := P13.out.c.lie
    simp only at x0 x1 x2 y0 y1 y2 z0 z1 z2
    go_wp2_with fail
    ((with_reducible refine (CW.out _ P13.out.l).mono ?_); rintro e wz ⟨rfl, bz⟩)
    have BZ := Lib.hid (up P13.out.l bz)
    clear bz
    go_wp2_with fail
    go_ret
    exact ⟨rfl, BZ.out⟩
  · simp at M2 E1
    ((with_reducible refine (M1.out _).mono ?_); rintro e w10 ⟨rfl, b10⟩)
    have P10 := Lib.hid (P9.out.later b10)
    clear b10 x0 x1 x2 y0 y1 y2 z0 z1 z2
    obtain ⟨x0, x1, x2⟩ := P10.out.a.lie
    obtain ⟨y0, y1, y2⟩ := P10.out.b.lie
    obtain ⟨z0, z1, z2⟩ := P10.out.c.lie
    simp only at x0 x1 x2 y0 y1 y2 z0 z1 z2
    go_wp2_with fail
    ((with_reducible refine (M2.out _).mono ?_); rintro e w11 ⟨rfl, b11⟩)
    have P11 := Lib.hid (P10.out.later b11)
    clear b11 x0 x1 x2 y0 y1 y2 z0 z1 z2
    obtain ⟨x0, x1, x2⟩ := P11.out.a.lie
    obtain ⟨y0, y1, y2⟩ := P11.out.b.lie
    obtain ⟨z0, z1, z2⟩ := P11.out.c.lie
    simp only at x0 x1 x2 y0 y1 y2 z0 z1 z2
    go_wp2_with fail
    ((with_reducible refine (M3.out _).mono ?_); rintro e w12 ⟨rfl, b12⟩)
    have P12 := Lib.hid (P11.out.later b12)
    clear b12 x0 x1 x2 y0 y1 y2 z0 z1 z2
    obtain ⟨x0, x1, x2⟩ := P12.out.a.lie
    obtain ⟨y0, y1, y2⟩ := P12.out.b.lie
    obtain ⟨z0, z1, z2⟩ := P12.out.c.lie
    simp only at x0 x1 x2 y0 y1 y2 z0 z1 z2
    go_wp2_with fail
    ((with_reducible refine (M4.out _).mono ?_); rintro e w13 ⟨rfl, b13⟩)
    have P13 := Lib.hid (P12.out.later b13)
    clear b13 x0 x1 x2 y0 y1 y2 z0 z1 z2
    obtain ⟨x0, x1, x2⟩ := P13.out.a.lie
    obtain ⟨y0, y1, y2⟩ := P13.out.b.lie
    obtain ⟨z0, z1, z2⟩ := P13.out.c.lie
    simp only at x0 x1 x2 y0 y1 y2 z0 z1 z2
    go_wp2_with fail
    ((with_reducible refine (CW.out _ P13.out.l).mono ?_); rintro e wz ⟨rfl, bz⟩)
    have BZ := Lib.hid (up P13.out.l bz)
    clear bz
    go_wp2_with fail
    go_ret
    exact ⟨rfl, BZ.out⟩
  · simp at M2 E1
    ((with_reducible refine (M1.out _).mono ?_); rintro e w10 ⟨rfl, b10⟩)
    have P10 := Lib.hid (P9.out.later b10)
    clear b10 x0 x1 x2 y0 y1 y2 z0 z1 z2
    obtain ⟨x0, x1, x2⟩ := P10.out.a.lie
    obtain ⟨y0, y1, y2⟩ := P10.out.b.lie
    obtain ⟨z0, z1, z2⟩ := P10.out.c.lie
    simp only at x0 x1 x2 y0 y1 y2 z0 z1 z2
    go_wp2_with fail
    ((with_reducible refine (M2.out _).mono ?_); rintro e w11 ⟨rfl, b11⟩)
    have P11 := Lib.hid (P10.out.later b11)
    clear b11 x0 x1 x2 y0 y1 y2 z0 z1 z2
    obtain ⟨x0, x1, x2⟩ := P11.out.a.lie
    obtain ⟨y0, y1, y2⟩ := P11.out.b.lie
    obtain ⟨z0, z1, z2⟩ := P11.out.c.lie
    simp only at x0 x1 x2 y0 y1 y2 z0 z1 z2
    go_wp2_with fail
    ((with_reducible refine (M3.out _).mono ?_); rintro e w12 ⟨rfl, b12⟩)
    have P12 := Lib.hid (P11.out.later b12)
    clear b12 x0 x1 x2 y0 y1 y2 z0 z1 z2
    obtain ⟨x0, x1, x2⟩ := P12.out.a.lie
    obtain ⟨y0, y1, y2⟩ := P12.out.b.lie
    obtain ⟨z0, z1, z2⟩ := P12.out.c.lie
    simp only at x0 x1 x2 y0 y1 y2 z0 z1 z2
    go_wp2_with fail
    ((with_reducible refine (M4.out _).mono ?_); rintro e w13 ⟨rfl, b13⟩)
    have P13 := Lib.hid (P12.out.later b13)
    clear b13 x0 x1 x2 y0 y1 y2 z0 z1 z2
    obtain ⟨x0, x1, x2⟩ := P13.out.a.lie
    obtain ⟨y0, y1, y2⟩ := P13.out.b.lie
    obtain ⟨z0, z1, z2⟩ := P13.out.c.lie
    simp only at x0 x1 x2 y0 y1 y2 z0 z1 z2
    go_wp2_with fail
    ((with_reducible refine (CW.out _ P13.out.l).mono ?_); rintro e wz ⟨rfl, bz⟩)
    have BZ := Lib.hid (up P13.out.l bz)
    clear bz
    go_wp2_with fail
    go_ret
    exact ⟨rfl, BZ.out⟩
  · simp at M2 E1
    ((with_reducible refine (M1.out _).mono ?_); rintro e w10 ⟨rfl, b10⟩)
    have P10 := Lib.hid (P9.out.later b10)
    clear b10 x0 x1 x2 y0 y1 y2 z0 z1 z2
    obtain ⟨x0, x1, x2⟩ := P10.out.a.lie
    obtain ⟨y0, y1, y2⟩ := P10.out.b.lie
    obtain ⟨z0, z1, z2⟩ := P10.out.c.lie
    simp only at x0 x1 x2 y0 y1 y2 z0 z1 z2
    go_wp2_with fail
    ((with_reducible refine (M2.out _).mono ?_); rintro e w11 ⟨rfl, b11⟩)
    have P11 := Lib.hid (P10.out.later b11)
    clear b11 x0 x1 x2 y0 y1 y2 z0 z1 z2
    obtain ⟨x0, x1, x2⟩ := P11.out.a.lie
    obtain ⟨y0, y1, y2⟩ := P11.out.b.lie
    obtain ⟨z0, z1, z2⟩ := P11.out.c.lie
    simp only at x0 x1 x2 y0 y1 y2 z0 z1 z2
    go_wp2_with fail
    ((with_reducible refine (M3.out _).mono ?_); rintro e w12 ⟨rfl, b12⟩)
    have P12 := Lib.hid (P11.out.later b12)
    clear b12 x0 x1 x2 y0 y1 y2 z0 z1 z2
    obtain ⟨x0, x1, x2⟩ := P12.out.a.lie
    obtain ⟨y0, y1, y2⟩ := P12.out.b.lie
    obtain ⟨z0, z1, z2⟩ := P12.out.c.lie
    simp only at x0 x1 x2 y0 y1 y2 z0 z1 z2
    go_wp2_with fail
    ((with_reducible refine (M4.out _).mono ?_); rintro e w13 ⟨rfl, b13⟩)
    have P13 := Lib.hid (P12.out.later b13)
    clear b13 x0 x1 x2 y0 y1 y2 z0 z1 z2
    obtain ⟨x0, x1, x2⟩ := P13.out.a.lie
    obtain ⟨y0, y1, y2⟩ := P13.out.b.lie
    obtain ⟨z0, z1, z2⟩ := P13.out.c.lie
    simp only at x0 x1 x2 y0 y1 y2 z0 z1 z2
    go_wp2_with fail
    ((with_reducible refine (CW.out _ P13.out.l).mono ?_); rintro e wz ⟨rfl, bz⟩)
    have BZ := Lib.hid (up P13.out.l bz)
    clear bz
    go_wp2_with fail
    go_ret
    exact ⟨rfl, BZ.out⟩
  · simp at M2 E1
    ((with_reducible refine (M1.out _).mono ?_); rintro e w10 ⟨rfl, b10⟩)
    have P10 := Lib.hid (P9.out.later b10)
    clear b10 x0 x1 x2 y0 y1 y2 z0 z1 z2
    obtain ⟨x0, x1, x2⟩ := P10.out.a.lie
    obtain ⟨y0, y1, y2⟩ := P10.out.b.lie
    obtain ⟨z0, z1, z2⟩ := P10.out.c.lie
    simp only at x0 x1 x2 y0 y1 y2 z0 z1 z2
    go_wp2_with fail
    ((with_reducible refine (M2.out _).mono ?_); rintro e w11 ⟨rfl, b11⟩)
    have P11 := Lib.hid (P10.out.later b11)
    clear b11 x0 x1 x2 y0 y1 y2 z0 z1 z2
    obtain ⟨x0, x1, x2⟩ := P11.out.a.lie
    obtain ⟨y0, y1, y2⟩ := P11.out.b.lie
    obtain ⟨z0, z1, z2⟩ := P11.out.c.lie
    simp only at x0 x1 x2 y0 y1 y2 z0 z1 z2
    go_wp2_with fail
    ((with_reducible refine (M3.out _).mono ?_); rintro e w12 ⟨rfl, b12⟩)
    have P12 := Lib.hid (P11.out.later b12)
    clear b12 x0 x1 x2 y0 y1 y2 z0 z1 z2
    obtain ⟨x0, x1, x2⟩ := P12.out.a.lie
    obtain ⟨y0, y1, y2⟩ := P12.out.b.lie
    obtain ⟨z0, z1, z2⟩ := P12.out.c.lie
    simp only at x0 x1 x2 y0 y1 y2 z0 z1 z2
    go_wp2_with fail
    ((with_reducible refine (CW.out _ P12.out.l).mono ?_); rintro e wz ⟨rfl, bz⟩)
    have BZ := Lib.hid (up P12.out.l bz)
    clear bz
    go_wp2_with fail
    go_ret
    exact ⟨rfl, BZ.out⟩
  · simp at M2 E1
    ((with_reducible refine (M1.out _).mono ?_); rintro e w10 ⟨rfl, b10⟩)
    have P10 := Lib.hid (P9.out.later b10)
    clear b10 x0 x1 x2 y0 y1 y2 z0 z1 z2
    obtain ⟨x0, x1, x2⟩ := P10.out.a.lie
    obtain ⟨y0, y1, y2⟩ := P10.out.b.lie
    obtain ⟨z0, z1, z2⟩ := P10.out.c.lie
    simp only at x0 x1 x2 y0 y1 y2 z0 z1 z2
    go_wp2_with fail
    ((with_reducible refine (M2.out _).mono ?_); rintro e w11 ⟨rfl, b11⟩)
    have P11 := Lib.hid (P10.out.later b11)
    clear b11 x0 x1 x2 y0 y1 y2 z0 z1 z2
    obtain ⟨x0, x1, x2⟩ := P11.out.a.lie
    obtain ⟨y0, y1, y2⟩ := P11.out.b.lie
    obtain ⟨z0, z1, z2⟩ := P11.out.c.lie
    simp only at x0 x1 x2 y0 y1 y2 z0 z1 z2
    go_wp2_with fail
    ((with_reducible refine (M3.out _).mono ?_); rintro e w12 ⟨rfl, b12⟩)
    have P12 := Lib.hid (P11.out.later b12)
    clear b12 x0 x1 x2 y0 y1 y2 z0 z1 z2
    obtain ⟨x0, x1, x2⟩ := P12.out.a.lie
    obtain ⟨y0, y1, y2⟩ := P12.out.b.lie
    obtain ⟨z0, z1, z2⟩ := P12.out.c.lie
    simp only at x0 x1 x2 y0 y1 y2 z0 z1 z2
    go_wp2_with fail
    ((with_reducible refine (M4.out _).mono ?_); rintro e w13 ⟨rfl, b13⟩)
    have P13 := Lib.hid (P12.out.later b13)
    clear b13 x0 x1 x2 y0 y1 y2 z0 z1 z2
    obtain ⟨x0, x1, x2⟩ := P13.out.a.lie
    obtain ⟨y0, y1, y2⟩ := P13.out.b.lie
    obtain ⟨z0, z1, z2⟩ := P13.out.c.lie
    simp only at x0 x1 x2 y0 y1 y2 z0 z1 z2
    go_wp2_with fail
    ((with_reducible refine (CW.out _ P13.out.l).mono ?_); rintro e wz ⟨rfl, bz⟩)
    have BZ := Lib.hid (up P13.out.l bz)
    clear bz
    go_wp2_with fail
    go_ret
    exact ⟨rfl, BZ.out⟩
  · simp at M2 E1
    ((with_reducible refine (M1.out _).mono ?_); rintro e w10 ⟨rfl, b10⟩)
    have P10 := Lib.hid (P9.out.later b10)
    clear b10 x0 x1 x2 y0 y1 y2 z0 z1 z2
    obtain ⟨x0, x1, x2⟩ := P10.out.a.lie
    obtain ⟨y0, y1, y2⟩ := P10.out.b.lie
    obtain ⟨z0, z1, z2⟩ := P10.out.c.lie
    simp only at x0 x1 x2 y0 y1 y2 z0 z1 z2
    go_wp2_with fail
    ((with_reducible refine (M2.out _).mono ?_); rintro e w11 ⟨rfl, b11⟩)
    have P11 := Lib.hid (P10.out.later b11)
    clear b11 x0 x1 x2 y0 y1 y2 z0 z1 z2
    obtain ⟨x0, x1, x2⟩ := P11.out.a.lie
    obtain ⟨y0, y1, y2⟩ := P11.out.b.lie
    obtain ⟨z0, z1, z2⟩ := P11.out.c.lie
    simp only at x0 x1 x2 y0 y1 y2 z0 z1 z2
    go_wp2_with fail
    ((with_reducible refine (M3.out _).mono ?_); rintro e w12 ⟨rfl, b12⟩)
    have P12 := Lib.hid (P11.out.later b12)
    clear b12 x0 x1 x2 y0 y1 y2 z0 z1 z2
    obtain ⟨x0, x1, x2⟩ := P12.out.a.lie
    obtain ⟨y0, y1, y2⟩ := P12.out.b.lie
    obtain ⟨z0, z1, z2⟩ := P12.out.c.lie
    simp only at x0 x1 x2 y0 y1 y2 z0 z1 z2
    go_wp2_with fail
    ((with_reducible refine (M4.out _).mono ?_); rintro e w13 ⟨rfl, b13⟩)
    have P13 := Lib.hid (P12.out.later b13)
    clear b13 x0 x1 x2 y0 y1 y2 z0 z1 z2
    obtain ⟨x0, x1, x2⟩ := P13.out.a.lie
    obtain ⟨y0, y1, y2⟩ := P13.out.b.lie
    obtain ⟨z0, z1, z2⟩ := P13.out.c.lie
    simp only at x0 x1 x2 y0 y1 y2 z0 z1 z2
    go_wp2_with fail
    ((with_reducible refine (CW.out _ P13.out.l).mono ?_); rintro e wz ⟨rfl, bz⟩)
    have BZ := Lib.hid (up P13.out.l bz)
    clear bz
    go_wp2_with fail
    go_ret
    exact ⟨rfl, BZ.out⟩
  · simp at M2 E1
    ((with_reducible refine (M1.out _).mono ?_); rintro e w10 ⟨rfl, b10⟩)
    have P10 := Lib.hid (P9.out.later b10)
    clear b10 x0 x1 x2 y0 y1 y2 z0 z1 z2
    obtain ⟨x0, x1, x2⟩ := P10.out.a.lie
    obtain ⟨y0, y1, y2⟩ := P10.out.b.lie
    obtain ⟨z0, z1, z2⟩ := P10.out.c.lie
    simp only at x0 x1 x2 y0 y1 y2 z0 z1 z2
    go_wp2_with fail
    ((with_reducible refine (M2.out _).mono ?_); rintro e w11 ⟨rfl, b11⟩)
    have P11 := Lib.hid (P10.out.later b11)
    clear b11 x0 x1 x2 y0 y1 y2 z0 z1 z2
    obtain ⟨x0, x1, x2⟩ := P11.out.a.lie
    obtain ⟨y0, y1, y2⟩ := P11.out.b.lie
    obtain ⟨z0, z1, z2⟩ := P11.out.c.lie
    simp only at x0 x1 x2 y0 y1 y2 z0 z1 z2
    go_wp2_with fail
    ((with_reducible refine (M3.out _).mono ?_); rintro e w12 ⟨rfl, b12⟩)
    have P12 := Lib.hid (P11.out.later b12)
    clear b12 x0 x1 x2 y0 y1 y2 z0 z1 z2
    obtain ⟨x0, x1, x2⟩ := P12.out.a.lie
    obtain ⟨y0, y1, y2⟩ := P12.out.b.lie
    obtain ⟨z0, z1, z2⟩ := P12.out.c.lie
    simp only at x0 x1 x2 y0 y1 y2 z0 z1 z2
    go_wp2_with fail
    ((with_reducible refine (M4.out _).mono ?_); rintro e w13 ⟨rfl, b13⟩)
    have P13 := Lib.hid (P12.out.later b13)
    clear b13 x0 x1 x2 y0 y1 y2 z0 z1 z2
    obtain ⟨x0, x1, x2⟩ := P13.out.a.lie
    obtain ⟨y0, y1, y2⟩ := P13.out.b.lie
    obtain ⟨z0, z1, z2⟩ := P13.out.c.lie
    simp only at x0 x1 x2 y0 y1 y2 z0 z1 z2
    go_wp2_with fail
    ((with_reducible refine (CW.out _ P13.out.l).mono ?_); rintro e wz ⟨rfl, bz⟩)
    have BZ := Lib.hid (up P13.out.l bz)
    clear bz
    go_wp2_with fail
    go_ret
    exact ⟨rfl, BZ.out⟩
  · simp at M2 E1
    ((with_reducible refine (M1.out _).mono ?_); rintro e w10 ⟨rfl, b10⟩)
    have P10 := Lib.hid (P9.out.later b10)
    clear b10 x0 x1 x2 y0 y1 y2 z0 z1 z2
    obtain ⟨x0, x1, x2⟩ := P10.out.a.lie
    obtain ⟨y0, y1, y2⟩ := P10.out.b.lie
    obtain ⟨z0, z1, z2⟩ := P10.out.c.lie
    simp only at x0 x1 x2 y0 y1 y2 z0 z1 z2
    go_wp2_with fail
    ((with_reducible refine (M2.out _).mono ?_); rintro e w11 ⟨rfl, b11⟩)
    have P11 := Lib.hid (P10.out.later b11)
    clear b11 x0 x1 x2 y0 y1 y2 z0 z1 z2
    obtain ⟨x0, x1, x2⟩ := P11.out.a.lie
    obtain ⟨y0, y1, y2⟩ := P11.out.b.lie
    obtain ⟨z0, z1, z2⟩ := P11.out.c.lie
    simp only at x0 x1 x2 y0 y1 y2 z0 z1 z2
    go_wp2_with fail
    ((with_reducible refine (M3.out _).mono ?_); rintro e w12 ⟨rfl, b12⟩)
    have P12 := Lib.hid (P11.out.later b12)
    clear b12 x0 x1 x2 y0 y1 y2 z0 z1 z2
    obtain ⟨x0, x1, x2⟩ := P12.out.a.lie
    obtain ⟨y0, y1, y2⟩ := P12.out.b.lie
    obtain ⟨z0, z1, z2⟩ := P12.out.c.lie
    simp only at x0 x1 x2 y0 y1 y2 z0 z1 z2
    go_wp2_with fail
    ((with_reducible refine (M4.out _).mono ?_); rintro e w13 ⟨rfl, b13⟩)
    have P13 := Lib.hid (P12.out.later b13)
    clear b13 x0 x1 x2 y0 y1 y2 z0 z1 z2
    obtain ⟨x0, x1, x2⟩ := P13.out.a.lie
    obtain ⟨y0, y1, y2⟩ := P13.out.b.lie
    obtain ⟨z0, z1, z2⟩ := P13.out.c.lie
    simp only at x0 x1 x2 y0 y1 y2 z0 z1 z2
    go_wp2_with fail
    ((with_reducible refine (CW.out _ P13.out.l).mono ?_); rintro e wz ⟨rfl, bz⟩)
    have BZ := Lib.hid (up P13.out.l bz)
    clear bz
    go_wp2_with fail
    go_ret
    exact ⟨rfl, BZ.out⟩
end Go.Proofs.YtffdgcdmbccodaaGreatDoor
