/- The walk of WideOrder. -/
import Derived.Test.YthlhfnafgjecaaaVar
import Derived.Deep.DeepCutAuto
import Derived.BigRegion
namespace Go.Proofs.Ythlhfnafgjecaaa
open Go.RowKit
set_option linter.unusedVariables false

theorem VW.drew {w : World} {g : Nat} {z : Int} (h : VW w g z) : VW w.drew g z := h
/-- Three such variables, since W. -/
def V3w (W : World) (a b c : Nat) (x y z : Int) (w : World) : Prop := Below W.heap.size W w ∧ VW w a x ∧ VW w b y ∧ VW w c z
theorem V3w.later {W w w' : World} {a b c : Nat} {x y z : Int} (h : V3w W a b c x y z w) (hb : Below w.heap.size w w') : V3w W a b c x y z w' :=
  ⟨up h.1 hb, h.2.1.later hb, h.2.2.1.later hb, h.2.2.2.later hb⟩
theorem V3w.mk {W : World} {a b c : Nat} {x y z : Int} {w : World} (hb : Below W.heap.size W w) (hx : VW w a x) (hy : VW w b y) (hz : VW w c z) : V3w W a b c x y z w := ⟨hb, hx, hy, hz⟩
/-- The words of three numbers, by name. -/
structure Named (x y z x0 x1 x2 y0 y1 y2 z0 z1 z2 : Int) : Prop where
  ex : Wd.lo x = x0 ∧ Wd.mi x = x1 ∧ Wd.hi x = x2
  ey : Wd.lo y = y0 ∧ Wd.mi y = y1 ∧ Wd.hi y = y2
  ez : Wd.lo z = z0 ∧ Wd.mi z = z1 ∧ Wd.hi z = z2
theorem VW.lies {w : World} {g : Nat} {z a b c : Int} (h : VW w g z) (e : Wd.lo z = a ∧ Wd.mi z = b ∧ Wd.hi z = c) : w.cell? ⟨g, 0, none⟩ = some (.int .u64 a) ∧ w.cell? ⟨g, 1, none⟩ = some (.int .u64 b) ∧ w.cell? ⟨g, 2, none⟩ = some (.int .u64 c) := by
  rw [← e.1, ← e.2.1, ← e.2.2]; exact h.lie
theorem wv_named {z a b c : Int} (e : Wd.lo z = a ∧ Wd.mi z = b ∧ Wd.hi z = c) : wv z = .agg #[.int .u64 a, .int .u64 b, .int .u64 c] := by
  rw [← e.1, ← e.2.1, ← e.2.2]; rfl
theorem start3 (w : World) (cs : Array Value) (p q r : Int) : VW ((((w.alloc (.cells cs 34)).alloc (.cells #[.int .u64 (Wd.lo p), .int .u64 (Wd.mi p), .int .u64 (Wd.hi p)] 25)).alloc (.cells #[.int .u64 (Wd.lo q), .int .u64 (Wd.mi q), .int .u64 (Wd.hi q)] 25)).alloc (.cells #[.int .u64 (Wd.lo r), .int .u64 (Wd.mi r), .int .u64 (Wd.hi r)] 25)).drew (w.heap.size + 1) p ∧ VW ((((w.alloc (.cells cs 34)).alloc (.cells #[.int .u64 (Wd.lo p), .int .u64 (Wd.mi p), .int .u64 (Wd.hi p)] 25)).alloc (.cells #[.int .u64 (Wd.lo q), .int .u64 (Wd.mi q), .int .u64 (Wd.hi q)] 25)).alloc (.cells #[.int .u64 (Wd.lo r), .int .u64 (Wd.mi r), .int .u64 (Wd.hi r)] 25)).drew (w.heap.size + 1 + 1) q ∧
    VW ((((w.alloc (.cells cs 34)).alloc (.cells #[.int .u64 (Wd.lo p), .int .u64 (Wd.mi p), .int .u64 (Wd.hi p)] 25)).alloc (.cells #[.int .u64 (Wd.lo q), .int .u64 (Wd.mi q), .int .u64 (Wd.hi q)] 25)).alloc (.cells #[.int .u64 (Wd.lo r), .int .u64 (Wd.mi r), .int .u64 (Wd.hi r)] 25)).drew (w.heap.size + 1 + 1 + 1) r ∧ Below w.heap.size w ((((w.alloc (.cells cs 34)).alloc (.cells #[.int .u64 (Wd.lo p), .int .u64 (Wd.mi p), .int .u64 (Wd.hi p)] 25)).alloc (.cells #[.int .u64 (Wd.lo q), .int .u64 (Wd.mi q), .int .u64 (Wd.hi q)] 25)).alloc (.cells #[.int .u64 (Wd.lo r), .int .u64 (Wd.mi r), .int .u64 (Wd.hi r)] 25)).drew := by
  have e1 : (w.alloc (.cells cs 34)).heap.size = w.heap.size + 1 := by simp
  have e2 : ((w.alloc (.cells cs 34)).alloc (.cells #[.int .u64 (Wd.lo p), .int .u64 (Wd.mi p), .int .u64 (Wd.hi p)] 25)).heap.size = w.heap.size + 1 + 1 := by simp
  have e3 : (((w.alloc (.cells cs 34)).alloc (.cells #[.int .u64 (Wd.lo p), .int .u64 (Wd.mi p), .int .u64 (Wd.hi p)] 25)).alloc (.cells #[.int .u64 (Wd.lo q), .int .u64 (Wd.mi q), .int .u64 (Wd.hi q)] 25)).heap.size = w.heap.size + 1 + 1 + 1 := by simp
  refine ⟨?_, ?_, ?_, ((((up_new w _).alloc (by simp) _).alloc (by simp; omega) _).alloc (by simp; omega) _).drew⟩
  · refine VW.drew ?_
    have h := ((VW.last (w.alloc (.cells cs 34)) p).later (up_new _ (.cells #[.int .u64 (Wd.lo q), .int .u64 (Wd.mi q), .int .u64 (Wd.hi q)] 25))).later (up_new _ (.cells #[.int .u64 (Wd.lo r), .int .u64 (Wd.mi r), .int .u64 (Wd.hi r)] 25))
    rw [e1] at h
    exact h
  · refine VW.drew ?_
    have h := (VW.last ((w.alloc (.cells cs 34)).alloc (.cells #[.int .u64 (Wd.lo p), .int .u64 (Wd.mi p), .int .u64 (Wd.hi p)] 25)) q).later (up_new _ (.cells #[.int .u64 (Wd.lo r), .int .u64 (Wd.mi r), .int .u64 (Wd.hi r)] 25))
    rw [e2] at h
    exact h
  · refine VW.drew ?_
    have h := VW.last (((w.alloc (.cells cs 34)).alloc (.cells #[.int .u64 (Wd.lo p), .int .u64 (Wd.mi p), .int .u64 (Wd.hi p)] 25)).alloc (.cells #[.int .u64 (Wd.lo q), .int .u64 (Wd.mi q), .int .u64 (Wd.hi q)] 25)) r
    rw [e3] at h
    exact h

set_option maxHeartbeats 16000000 in
set_option maxRecDepth 100000 in
theorem wideOrder (x y z a b : Int) (w : World) (hs : Wd.Sg x ∧ Wd.Sg y ∧ Wd.Sg z) (a0 : -9223372036854775808 ≤ a) (a1 : a ≤ 9223372036854775807) (b0 : -9223372036854775808 ≤ b) (b1 : b ≤ 9223372036854775807) :
    Calls Try.prog 8 #[.agg #[.int .u64 (Wd.lo x), .int .u64 (Wd.mi x), .int .u64 (Wd.hi x), .int .u64 (Wd.lo y), .int .u64 (Wd.mi y), .int .u64 (Wd.hi y), .int .u64 (Wd.lo z), .int .u64 (Wd.mi z), .int .u64 (Wd.hi z)], .int .i64 a, .int .i64 b] w
      fun e w' => e = .returned (.bool true) ∧ Below w.heap.size w w' := by
  have oa := Lib.hid (fun w => of_ a w a0 a1)
  have ob := Lib.hid (fun w => of_ b w b0 b1)
  have oc := Lib.hid (fun w => compare a b _ w (by unfold Wd.Sg; omega) (by unfold Wd.Sg; omega) rfl)
  clear a0 a1 b0 b1
  go_enter Try.func8, Try.ntmps8
  go_upto_region 1 with fail
  go_cut [7, 8, 9] (fun s7 s8 s9 wx => ∃ g1 g2 g3 : Nat, s7 = .pointer (some ⟨g1, 0, none⟩) ∧ s8 = .pointer (some ⟨g2, 0, none⟩) ∧ s9 = .pointer (some ⟨g3, 0, none⟩) ∧ Hid (V3w w g1 g2 g3 x y z wx))
  case first =>
    go_region
    · go_wp2_with fail
      go_meet
      refine ⟨_, _, _, rfl, rfl, rfl, Lib.hid ?_⟩
      exact V3w.mk (start3 w _ x y z).2.2.2 (start3 w _ x y z).1 (start3 w _ x y z).2.1 (start3 w _ x y z).2.2.1
    · go_wp2_with fail
      go_meet
      refine ⟨_, _, _, rfl, rfl, rfl, Lib.hid ?_⟩
      exact V3w.mk (start3 w _ x z y).2.2.2 (start3 w _ x z y).1 (start3 w _ x z y).2.2.1 (start3 w _ x z y).2.1
    · go_wp2_with fail
      go_meet
      refine ⟨_, _, _, rfl, rfl, rfl, Lib.hid ?_⟩
      exact V3w.mk (start3 w _ y x z).2.2.2 (start3 w _ y x z).2.1 (start3 w _ y x z).1 (start3 w _ y x z).2.2.1
    · go_wp2_with fail
      go_meet
      refine ⟨_, _, _, rfl, rfl, rfl, Lib.hid ?_⟩
      exact V3w.mk (start3 w _ y z x).2.2.2 (start3 w _ y z x).2.2.1 (start3 w _ y z x).1 (start3 w _ y z x).2.1
    · go_wp2_with fail
      go_meet
      refine ⟨_, _, _, rfl, rfl, rfl, Lib.hid ?_⟩
      exact V3w.mk (start3 w _ z x y).2.2.2 (start3 w _ z x y).2.1 (start3 w _ z x y).2.2.1 (start3 w _ z x y).1
    · go_wp2_with fail
      go_meet
      refine ⟨_, _, _, rfl, rfl, rfl, Lib.hid ?_⟩
      exact V3w.mk (start3 w _ z y x).2.2.2 (start3 w _ z y x).2.2.1 (start3 w _ z y x).2.1 (start3 w _ z y x).1
  case rest =>
  obtain ⟨g1, g2, g3, rfl, rfl, rfl, HV⟩ := hcut
  obtain ⟨c, hc⟩ : ∃ c, Wd.cmp x y = c := ⟨_, rfl⟩
  obtain ⟨x0, x1, x2, y0, y1, y2, z0, z1, z2, HN⟩ : ∃ x0 x1 x2 y0 y1 y2 z0 z1 z2, Hid (Named x y z x0 x1 x2 y0 y1 y2 z0 z1 z2) := ⟨_, _, _, _, _, _, _, _, _, Lib.hid ⟨⟨rfl, rfl, rfl⟩, ⟨rfl, rfl, rfl⟩, ⟨rfl, rfl, rfl⟩⟩⟩
  have hd : x = y ∨ (x ≠ y ∧ (¬ x0 = y0 ∨ (x0 = y0 ∧ ¬ x1 = y1) ∨ (x0 = y0 ∧ x1 = y1 ∧ ¬ x2 = y2))) := by
    by_cases h : x = y
    · exact .inl h
    · refine .inr ⟨h, ?_⟩
      have := fun k0 k1 k2 => h (Wd.inj x y hs.1 hs.2.1 k0 k1 k2)
      rw [HN.out.ex.1, HN.out.ex.2.1, HN.out.ex.2.2, HN.out.ey.1, HN.out.ey.2.1, HN.out.ey.2.2] at this
      by_cases k0 : x0 = y0
      · by_cases k1 : x1 = y1
        · exact .inr (.inr ⟨k0, k1, fun k2 => this k0 k1 k2⟩)
        · exact .inr (.inl ⟨k0, k1⟩)
      · exact .inl k0
  have kxy := fun w => compare x y c w hs.1 hs.2.1 hc
  have kyx := fun r (h : Wd.cmp y x = r) w => compare y x r w hs.2.1 hs.1 h
  have kyz := fun r (h : Wd.cmp y z = r) w => compare y z r w hs.2.1 hs.2.2 h
  have kxz := fun r (h : Wd.cmp x z = r) w => compare x z r w hs.1 hs.2.2 h
  rw [wv_named HN.out.ex, wv_named HN.out.ey] at kxy kyx
  rw [wv_named HN.out.ey, wv_named HN.out.ez] at kyz
  rw [wv_named HN.out.ex, wv_named HN.out.ez] at kxz
  obtain ⟨p0, p1, p2⟩ := VW.lies HV.out.2.1 HN.out.ex
  obtain ⟨p3, p4, p5⟩ := VW.lies HV.out.2.2.1 HN.out.ey
  have HH := Lib.hid (And.intro kyx (And.intro kyz kxz))
  clear kyx kyz kxz hs
  go_upto_region 3 with (first | ((with_reducible refine (kxy _).mono ?_); rintro e w2 ⟨rfl, b2⟩))
  have H2 := Lib.hid (HV.out.later b2)
  clear b2 p0 p1 p2 p3 p4 p5 HV kxy
  go_cut [57] (fun s57 wx => s57 = .bool false ∧ Hid (V3w w g1 g2 g3 x y z wx))
  case first =>
    rcases hd with hxy | ⟨hne, hdiff⟩
    · subst hxy
      have ec : c = 0 := by rw [← hc, Wd.cmp_eq]
      subst ec
      have en := HN.out
      obtain ⟨⟨e0, e1, e2⟩, ⟨f0, f1, f2⟩, h9⟩ := en
      clear h9
      obtain rfl : x0 = y0 := e0.symm.trans f0
      obtain rfl : x1 = y1 := e1.symm.trans f1
      obtain rfl : x2 = y2 := e2.symm.trans f2
      clear e0 e1 e2 f0 f1 f2 hc
      have k1 := Lib.hid (HH.out.1 0 (Wd.cmp_eq x))
      obtain ⟨d, hdz⟩ : ∃ d, Wd.cmp x z = d := ⟨_, rfl⟩
      have k2 := Lib.hid (HH.out.2.1 d hdz)
      have k3 := Lib.hid (HH.out.2.2 d hdz)
      clear HH hdz
      by_cases hd0 : d ≤ 0
      · have hd1 : decide (0 < d) = false := decide_eq_false (by omega)
        obtain ⟨p0, p1, p2⟩ := VW.lies H2.out.2.1 HN.out.ex
        obtain ⟨p3, p4, p5⟩ := VW.lies H2.out.2.2.1 HN.out.ey
        obtain ⟨p6, p7, p8⟩ := VW.lies H2.out.2.2.2 HN.out.ez
        go_wp2_with fail
        ((with_reducible refine (k1.out _).mono ?_); rintro e w3 ⟨rfl, b3⟩)
        have H3 := Lib.hid (H2.out.later b3)
        obtain ⟨p9, p10, p11⟩ := VW.lies H3.out.2.1 HN.out.ex
        obtain ⟨p12, p13, p14⟩ := VW.lies H3.out.2.2.1 HN.out.ey
        obtain ⟨p15, p16, p17⟩ := VW.lies H3.out.2.2.2 HN.out.ez
        clear b3 p0 p1 p2 p3 p4 p5 p6 p7 p8 H2
        go_wp2_with fail
        ((with_reducible refine (k2.out _).mono ?_); rintro e w4 ⟨rfl, b4⟩)
        have H4 := Lib.hid (H3.out.later b4)
        obtain ⟨q0, q1, q2⟩ := VW.lies H4.out.2.1 HN.out.ex
        obtain ⟨q3, q4, q5⟩ := VW.lies H4.out.2.2.2 HN.out.ez
        clear b4 p9 p10 p11 p12 p13 p14 p15 p16 p17 H3
        go_wp2_with fail
        ((with_reducible refine (k3.out _).mono ?_); rintro e w5 ⟨rfl, b5⟩)
        have H5 := Lib.hid (H4.out.later b5)
        clear b5 q0 q1 q2 q3 q4 q5 H4
        go_wp2_with fail
        go_meet
        exact ⟨rfl, H5⟩
      · have hd1 : 0 < d := by omega
        obtain ⟨p0, p1, p2⟩ := VW.lies H2.out.2.1 HN.out.ex
        obtain ⟨p3, p4, p5⟩ := VW.lies H2.out.2.2.1 HN.out.ey
        obtain ⟨p6, p7, p8⟩ := VW.lies H2.out.2.2.2 HN.out.ez
        go_wp2_with fail
        ((with_reducible refine (k1.out _).mono ?_); rintro e w3 ⟨rfl, b3⟩)
        have H3 := Lib.hid (H2.out.later b3)
        obtain ⟨p9, p10, p11⟩ := VW.lies H3.out.2.1 HN.out.ex
        obtain ⟨p12, p13, p14⟩ := VW.lies H3.out.2.2.1 HN.out.ey
        obtain ⟨p15, p16, p17⟩ := VW.lies H3.out.2.2.2 HN.out.ez
        clear b3 p0 p1 p2 p3 p4 p5 p6 p7 p8 H2
        go_wp2_with fail
        ((with_reducible refine (k2.out _).mono ?_); rintro e w4 ⟨rfl, b4⟩)
        have H4 := Lib.hid (H3.out.later b4)
        obtain ⟨q0, q1, q2⟩ := VW.lies H4.out.2.1 HN.out.ex
        obtain ⟨q3, q4, q5⟩ := VW.lies H4.out.2.2.2 HN.out.ez
        clear b4 p9 p10 p11 p12 p13 p14 p15 p16 p17 H3
        go_wp2_with fail
        go_meet
        exact ⟨rfl, H4⟩
    · rcases Int.lt_or_gt_of_ne hne with hlt | hgt
      · have ec : c = -1 := by rw [← hc, Wd.cmp_lt _ _ hlt]
        subst ec
        clear hc hne
        have k1 := Lib.hid (HH.out.1 1 (Wd.cmp_gt _ _ hlt))
        by_cases hyz : z < y
        · have k2 := Lib.hid (HH.out.2.1 1 (Wd.cmp_gt _ _ hyz))
          clear HH hlt hyz
          rcases hdiff with h | ⟨rfl, h⟩ | ⟨rfl, rfl, h⟩
          · skip
            obtain ⟨p0, p1, p2⟩ := VW.lies H2.out.2.1 HN.out.ex
            obtain ⟨p3, p4, p5⟩ := VW.lies H2.out.2.2.1 HN.out.ey
            obtain ⟨p6, p7, p8⟩ := VW.lies H2.out.2.2.2 HN.out.ez
            go_wp2_with fail
            ((with_reducible refine (k1.out _).mono ?_); rintro e w3 ⟨rfl, b3⟩)
            have H3 := Lib.hid (H2.out.later b3)
            obtain ⟨p9, p10, p11⟩ := VW.lies H3.out.2.1 HN.out.ex
            obtain ⟨p12, p13, p14⟩ := VW.lies H3.out.2.2.1 HN.out.ey
            obtain ⟨p15, p16, p17⟩ := VW.lies H3.out.2.2.2 HN.out.ez
            clear b3 p0 p1 p2 p3 p4 p5 p6 p7 p8 H2
            go_wp2_with fail
            ((with_reducible refine (k2.out _).mono ?_); rintro e w4 ⟨rfl, b4⟩)
            have H4 := Lib.hid (H3.out.later b4)
            obtain ⟨q0, q1, q2⟩ := VW.lies H4.out.2.1 HN.out.ex
            obtain ⟨q3, q4, q5⟩ := VW.lies H4.out.2.2.2 HN.out.ez
            clear b4 p9 p10 p11 p12 p13 p14 p15 p16 p17 H3
            go_wp2_with fail
            go_meet
            exact ⟨rfl, H4⟩
          · skip
            obtain ⟨p0, p1, p2⟩ := VW.lies H2.out.2.1 HN.out.ex
            obtain ⟨p3, p4, p5⟩ := VW.lies H2.out.2.2.1 HN.out.ey
            obtain ⟨p6, p7, p8⟩ := VW.lies H2.out.2.2.2 HN.out.ez
            go_wp2_with fail
            ((with_reducible refine (k1.out _).mono ?_); rintro e w3 ⟨rfl, b3⟩)
            have H3 := Lib.hid (H2.out.later b3)
            obtain ⟨p9, p10, p11⟩ := VW.lies H3.out.2.1 HN.out.ex
            obtain ⟨p12, p13, p14⟩ := VW.lies H3.out.2.2.1 HN.out.ey
            obtain ⟨p15, p16, p17⟩ := VW.lies H3.out.2.2.2 HN.out.ez
            clear b3 p0 p1 p2 p3 p4 p5 p6 p7 p8 H2
            go_wp2_with fail
            ((with_reducible refine (k2.out _).mono ?_); rintro e w4 ⟨rfl, b4⟩)
            have H4 := Lib.hid (H3.out.later b4)
            obtain ⟨q0, q1, q2⟩ := VW.lies H4.out.2.1 HN.out.ex
            obtain ⟨q3, q4, q5⟩ := VW.lies H4.out.2.2.2 HN.out.ez
            clear b4 p9 p10 p11 p12 p13 p14 p15 p16 p17 H3
            go_wp2_with fail
            go_meet
            exact ⟨rfl, H4⟩
          · skip
            obtain ⟨p0, p1, p2⟩ := VW.lies H2.out.2.1 HN.out.ex
            obtain ⟨p3, p4, p5⟩ := VW.lies H2.out.2.2.1 HN.out.ey
            obtain ⟨p6, p7, p8⟩ := VW.lies H2.out.2.2.2 HN.out.ez
            go_wp2_with fail
            ((with_reducible refine (k1.out _).mono ?_); rintro e w3 ⟨rfl, b3⟩)
            have H3 := Lib.hid (H2.out.later b3)
            obtain ⟨p9, p10, p11⟩ := VW.lies H3.out.2.1 HN.out.ex
            obtain ⟨p12, p13, p14⟩ := VW.lies H3.out.2.2.1 HN.out.ey
            obtain ⟨p15, p16, p17⟩ := VW.lies H3.out.2.2.2 HN.out.ez
            clear b3 p0 p1 p2 p3 p4 p5 p6 p7 p8 H2
            go_wp2_with fail
            ((with_reducible refine (k2.out _).mono ?_); rintro e w4 ⟨rfl, b4⟩)
            have H4 := Lib.hid (H3.out.later b4)
            obtain ⟨q0, q1, q2⟩ := VW.lies H4.out.2.1 HN.out.ex
            obtain ⟨q3, q4, q5⟩ := VW.lies H4.out.2.2.2 HN.out.ez
            clear b4 p9 p10 p11 p12 p13 p14 p15 p16 p17 H3
            go_wp2_with fail
            go_meet
            exact ⟨rfl, H4⟩
        · obtain ⟨d, hdz⟩ : ∃ d, Wd.cmp y z = d := ⟨_, rfl⟩
          have hd0 : d ≤ 0 := by rw [← hdz]; unfold Wd.cmp; split <;> (try split) <;> omega
          have k2 := Lib.hid (HH.out.2.1 d hdz)
          have k3 := Lib.hid (HH.out.2.2 (-1) (Wd.cmp_lt _ _ (by omega)))
          clear HH hlt hyz hdz
          rcases hdiff with h | ⟨rfl, h⟩ | ⟨rfl, rfl, h⟩
          · skip
            obtain ⟨p0, p1, p2⟩ := VW.lies H2.out.2.1 HN.out.ex
            obtain ⟨p3, p4, p5⟩ := VW.lies H2.out.2.2.1 HN.out.ey
            obtain ⟨p6, p7, p8⟩ := VW.lies H2.out.2.2.2 HN.out.ez
            go_wp2_with fail
            ((with_reducible refine (k1.out _).mono ?_); rintro e w3 ⟨rfl, b3⟩)
            have H3 := Lib.hid (H2.out.later b3)
            obtain ⟨p9, p10, p11⟩ := VW.lies H3.out.2.1 HN.out.ex
            obtain ⟨p12, p13, p14⟩ := VW.lies H3.out.2.2.1 HN.out.ey
            obtain ⟨p15, p16, p17⟩ := VW.lies H3.out.2.2.2 HN.out.ez
            clear b3 p0 p1 p2 p3 p4 p5 p6 p7 p8 H2
            go_wp2_with fail
            ((with_reducible refine (k2.out _).mono ?_); rintro e w4 ⟨rfl, b4⟩)
            have H4 := Lib.hid (H3.out.later b4)
            obtain ⟨q0, q1, q2⟩ := VW.lies H4.out.2.1 HN.out.ex
            obtain ⟨q3, q4, q5⟩ := VW.lies H4.out.2.2.2 HN.out.ez
            clear b4 p9 p10 p11 p12 p13 p14 p15 p16 p17 H3
            go_wp2_with fail
            ((with_reducible refine (k3.out _).mono ?_); rintro e w5 ⟨rfl, b5⟩)
            have H5 := Lib.hid (H4.out.later b5)
            clear b5 q0 q1 q2 q3 q4 q5 H4
            go_wp2_with fail
            go_meet
            exact ⟨rfl, H5⟩
          · skip
            obtain ⟨p0, p1, p2⟩ := VW.lies H2.out.2.1 HN.out.ex
            obtain ⟨p3, p4, p5⟩ := VW.lies H2.out.2.2.1 HN.out.ey
            obtain ⟨p6, p7, p8⟩ := VW.lies H2.out.2.2.2 HN.out.ez
            go_wp2_with fail
            ((with_reducible refine (k1.out _).mono ?_); rintro e w3 ⟨rfl, b3⟩)
            have H3 := Lib.hid (H2.out.later b3)
            obtain ⟨p9, p10, p11⟩ := VW.lies H3.out.2.1 HN.out.ex
            obtain ⟨p12, p13, p14⟩ := VW.lies H3.out.2.2.1 HN.out.ey
            obtain ⟨p15, p16, p17⟩ := VW.lies H3.out.2.2.2 HN.out.ez
            clear b3 p0 p1 p2 p3 p4 p5 p6 p7 p8 H2
            go_wp2_with fail
            ((with_reducible refine (k2.out _).mono ?_); rintro e w4 ⟨rfl, b4⟩)
            have H4 := Lib.hid (H3.out.later b4)
            obtain ⟨q0, q1, q2⟩ := VW.lies H4.out.2.1 HN.out.ex
            obtain ⟨q3, q4, q5⟩ := VW.lies H4.out.2.2.2 HN.out.ez
            clear b4 p9 p10 p11 p12 p13 p14 p15 p16 p17 H3
            go_wp2_with fail
            ((with_reducible refine (k3.out _).mono ?_); rintro e w5 ⟨rfl, b5⟩)
            have H5 := Lib.hid (H4.out.later b5)
            clear b5 q0 q1 q2 q3 q4 q5 H4
            go_wp2_with fail
            go_meet
            exact ⟨rfl, H5⟩
          · skip
            obtain ⟨p0, p1, p2⟩ := VW.lies H2.out.2.1 HN.out.ex
            obtain ⟨p3, p4, p5⟩ := VW.lies H2.out.2.2.1 HN.out.ey
            obtain ⟨p6, p7, p8⟩ := VW.lies H2.out.2.2.2 HN.out.ez
            go_wp2_with fail
            ((with_reducible refine (k1.out _).mono ?_); rintro e w3 ⟨rfl, b3⟩)
            have H3 := Lib.hid (H2.out.later b3)
            obtain ⟨p9, p10, p11⟩ := VW.lies H3.out.2.1 HN.out.ex
            obtain ⟨p12, p13, p14⟩ := VW.lies H3.out.2.2.1 HN.out.ey
            obtain ⟨p15, p16, p17⟩ := VW.lies H3.out.2.2.2 HN.out.ez
            clear b3 p0 p1 p2 p3 p4 p5 p6 p7 p8 H2
            go_wp2_with fail
            ((with_reducible refine (k2.out _).mono ?_); rintro e w4 ⟨rfl, b4⟩)
            have H4 := Lib.hid (H3.out.later b4)
            obtain ⟨q0, q1, q2⟩ := VW.lies H4.out.2.1 HN.out.ex
            obtain ⟨q3, q4, q5⟩ := VW.lies H4.out.2.2.2 HN.out.ez
            clear b4 p9 p10 p11 p12 p13 p14 p15 p16 p17 H3
            go_wp2_with fail
            ((with_reducible refine (k3.out _).mono ?_); rintro e w5 ⟨rfl, b5⟩)
            have H5 := Lib.hid (H4.out.later b5)
            clear b5 q0 q1 q2 q3 q4 q5 H4
            go_wp2_with fail
            go_meet
            exact ⟨rfl, H5⟩
      · have ec : c = 1 := by rw [← hc, Wd.cmp_gt _ _ hgt]
        subst ec
        clear hc hne
        have k1 := Lib.hid (HH.out.1 (-1) (Wd.cmp_lt _ _ hgt))
        clear HH hgt
        rcases hdiff with h | ⟨rfl, h⟩ | ⟨rfl, rfl, h⟩
        · skip
          obtain ⟨p0, p1, p2⟩ := VW.lies H2.out.2.1 HN.out.ex
          obtain ⟨p3, p4, p5⟩ := VW.lies H2.out.2.2.1 HN.out.ey
          obtain ⟨p6, p7, p8⟩ := VW.lies H2.out.2.2.2 HN.out.ez
          go_wp2_with fail
          ((with_reducible refine (k1.out _).mono ?_); rintro e w3 ⟨rfl, b3⟩)
          have H3 := Lib.hid (H2.out.later b3)
          obtain ⟨p9, p10, p11⟩ := VW.lies H3.out.2.1 HN.out.ex
          obtain ⟨p12, p13, p14⟩ := VW.lies H3.out.2.2.1 HN.out.ey
          obtain ⟨p15, p16, p17⟩ := VW.lies H3.out.2.2.2 HN.out.ez
          clear b3 p0 p1 p2 p3 p4 p5 p6 p7 p8 H2
          go_wp2_with fail
          go_meet
          exact ⟨rfl, H3⟩
        · skip
          obtain ⟨p0, p1, p2⟩ := VW.lies H2.out.2.1 HN.out.ex
          obtain ⟨p3, p4, p5⟩ := VW.lies H2.out.2.2.1 HN.out.ey
          obtain ⟨p6, p7, p8⟩ := VW.lies H2.out.2.2.2 HN.out.ez
          go_wp2_with fail
          ((with_reducible refine (k1.out _).mono ?_); rintro e w3 ⟨rfl, b3⟩)
          have H3 := Lib.hid (H2.out.later b3)
          obtain ⟨p9, p10, p11⟩ := VW.lies H3.out.2.1 HN.out.ex
          obtain ⟨p12, p13, p14⟩ := VW.lies H3.out.2.2.1 HN.out.ey
          obtain ⟨p15, p16, p17⟩ := VW.lies H3.out.2.2.2 HN.out.ez
          clear b3 p0 p1 p2 p3 p4 p5 p6 p7 p8 H2
          go_wp2_with fail
          go_meet
          exact ⟨rfl, H3⟩
        · skip
          obtain ⟨p0, p1, p2⟩ := VW.lies H2.out.2.1 HN.out.ex
          obtain ⟨p3, p4, p5⟩ := VW.lies H2.out.2.2.1 HN.out.ey
          obtain ⟨p6, p7, p8⟩ := VW.lies H2.out.2.2.2 HN.out.ez
          go_wp2_with fail
          ((with_reducible refine (k1.out _).mono ?_); rintro e w3 ⟨rfl, b3⟩)
          have H3 := Lib.hid (H2.out.later b3)
          obtain ⟨p9, p10, p11⟩ := VW.lies H3.out.2.1 HN.out.ex
          obtain ⟨p12, p13, p14⟩ := VW.lies H3.out.2.2.1 HN.out.ey
          obtain ⟨p15, p16, p17⟩ := VW.lies H3.out.2.2.2 HN.out.ez
          clear b3 p0 p1 p2 p3 p4 p5 p6 p7 p8 H2
          go_wp2_with fail
          go_meet
          exact ⟨rfl, H3⟩
  case rest =>
  obtain ⟨rfl, H3⟩ := hcut
  clear H2 HH hd hc HN
  obtain ⟨r, hr⟩ : ∃ r, Wd.cmp a b = r := ⟨_, rfl⟩
  rw [hr] at oc
  have HE : (decide (r < 0) == decide (a < b)) = true := by
    rw [← hr]
    unfold Wd.cmp
    by_cases h : a < b
    · simp [h]
    · rw [if_neg h]; split <;> simp [h]
  clear hr
  go_wp2_with fail
  ((with_reducible refine (oa.out _).mono ?_); rintro e w6 ⟨rfl, b6⟩)
  have H4 := Lib.hid (up H3.out.1 b6)
  clear b6 H3
  go_wp2_with fail
  ((with_reducible refine (ob.out _).mono ?_); rintro e w7 ⟨rfl, b7⟩)
  have H5 := Lib.hid (up H4.out b7)
  clear b7 H4
  go_wp2_with fail
  ((with_reducible refine (oc.out _).mono ?_); rintro e w8 ⟨rfl, b8⟩)
  have H6 := Lib.hid (up H5.out b8)
  clear b8 H5
  go_wp2_with fail
  ((with_reducible refine (works _).mono ?_); rintro e w9 ⟨rfl, b9⟩)
  have H7 := Lib.hid (up H6.out b9)
  clear b9 H6
  go_wp2
  go_ret
  exact ⟨rfl, H7.out⟩
end Go.Proofs.Ythlhfnafgjecaaa
