/- CellBits' walk: bits stand as the cells do, and none are the beginning of another cell's. -/
import Derived.Test.YtffdgcdmbccodaaGreatDoorClCut
import Derived.Test.YtffdgcdmbccodaaGreatDoorQuietTail
import Derived.Lib.QuietBelow
namespace Go.Proofs.YtffdgcdmbccodaaGreatDoor
open Go.RowKit Go.Sort
set_option linter.unusedVariables false
set_option maxRecDepth 100000

theorem bits_pre {x y : ByteArray} (h : ∀ r, bl x ≠ bl y ++ r) : Lib.hasPrefix x.data.toList y.data.toList = false := by
  cases hp : Lib.hasPrefix x.data.toList y.data.toList with
  | false => rfl
  | true =>
    unfold Lib.hasPrefix at hp
    obtain ⟨r, hr⟩ := List.isPrefixOf_iff_prefix.1 hp
    exact absurd (show bl x = bl y ++ r.map (·.toNat) by unfold bl; rw [← hr, List.map_append]) (h _)
/-- A type and two cells, each in a variable of its own, behind all that was there. -/
structure T3 (w0 : World) (u : Bool) (k : Int) (a b : Cl.C) (w : World) : Prop where
  t : TV w w0.heap.size u k
  a : CV w (w0.heap.size + 1) a
  b : CV w (w0.heap.size + 1 + 1) b
  l : Below w0.heap.size w0 w
theorem T3.later {w0 w w' : World} {u : Bool} {k : Int} {a b : Cl.C} (h : T3 w0 u k a b w) (hb : Below w.heap.size w w') : T3 w0 u k a b w' := ⟨h.t.later hb, h.a.later hb, h.b.later hb, up h.l hb⟩
theorem T3.start (w : World) (u : Bool) (k : Int) (a b : Cl.C) : T3 w u k a b (((w.alloc (.cells #[.int .i64 k, .bool u] 46)).alloc (.cells #[.bool a.u, .int .i64 a.n, .string a.s] 48)).alloc (.cells #[.bool b.u, .int .i64 b.n, .string b.s] 48)) := by
  have h0 := BX.start w u k a
  have h := CV.new ((w.alloc (.cells #[.int .i64 k, .bool u] 46)).alloc (.cells #[.bool a.u, .int .i64 a.n, .string a.s] 48)) b.u b.n b.s
  rw [show ((w.alloc (.cells #[.int .i64 k, .bool u] 46)).alloc (.cells #[.bool a.u, .int .i64 a.n, .string a.s] 48)).heap.size = w.heap.size + 1 + 1 by simp] at h
  exact ⟨h0.t.later (box_new _ _), h0.c.later (box_new _ _), h, up h0.b (box_new _ _)⟩
theorem T3.put {w w5 : World} {u : Bool} {k : Int} {a b : Cl.C} (h : T3 w u k a b w5) (a1 : Bool) (a2 : Int) (a3 : ByteArray) (b1 : Bool) (b2 : Int) (b3 : ByteArray) : T3 w u k ⟨a1, a2, a3⟩ ⟨b1, b2, b3⟩ ((((((w5.setCell ⟨w.heap.size + 1, 0, none⟩ (.bool a1)).setCell ⟨w.heap.size + 1, 1, none⟩ (.int .i64 a2)).setCell ⟨w.heap.size + 1, 2, none⟩ (.string a3)).setCell ⟨w.heap.size + 1 + 1, 0, none⟩ (.bool b1)).setCell ⟨w.heap.size + 1 + 1, 1, none⟩ (.int .i64 b2)).setCell ⟨w.heap.size + 1 + 1, 2, none⟩ (.string b3)) :=
  ⟨Blk.past (Blk.past h.t (by omega) _ _ _) (by omega) _ _ _, (h.a.put _ _ _).past (by omega) _ _ _, (h.b.past (by omega) _ _ _).put _ _ _, put_below (by omega) (put_below (by omega) h.l _ _ _) _ _ _⟩
theorem bits_less (u : Bool) (k : Int) (a b : Cl.C) (hk : Cl.may k = true) (ha : Cl.of u k a = true) (hb : Cl.of u k b = true) (ia : Cl.I64 a.n) (ib : Cl.I64 b.n) (hne : a ≠ b) (x y : ByteArray) (hx : str (Cl.bts u k a) = x) (hy : str (Cl.bts u k b) = y) :
    Op.bytesLess x.toList y.toList = decide (Cl.cmp a b < 0) ∧ (x.toList == y.toList) = false ∧ Lib.hasPrefix x.data.toList y.data.toList = false ∧ Lib.hasPrefix y.data.toList x.data.toList = false := by
  have ex : bl x = Cl.bts u k a := by rw [← hx, bl_str _ (Cl.bts_byte hk ha)]
  have ey : bl y = Cl.bts u k b := by rw [← hy, bl_str _ (Cl.bts_byte hk hb)]
  refine ⟨?_, ?_, bits_pre fun r => ?_, bits_pre fun r => ?_⟩
  · have := Cl.bts_less u k a b hk ha hb ia ib hne [] []
    rw [List.append_nil, List.append_nil] at this
    rw [Tp.less_bl, ex, ey, this]
  · rw [bl_eq, ex, ey]
    exact decide_eq_false fun e => Cl.bts_apart u k b a hk hb ha ib ia (fun e => hne e.symm) [] (by rw [List.append_nil]; exact e)
  · rw [ex, ey]; exact Cl.bts_apart u k b a hk hb ha ib ia (fun e => hne e.symm) r
  · rw [ex, ey]; exact Cl.bts_apart u k a b hk ha hb ia ib hne r
set_option maxHeartbeats 8000000 in
theorem cellBits (u : Bool) (k : Int) (a b : Cl.C) (w : World) (hk : Cl.I64 k) (ai : Cl.I64 a.n) (am : a.s.size ≤ maxLen) (bi : Cl.I64 b.n) (bm : b.s.size ≤ maxLen) (T : TA w) :
    Calls Tryz.prog 14 #[tv u k, cv a, cv b] w fun e w' => e = .returned (.bool true) ∧ Below w.heap.size w w' := by
  have TW := Lib.hid (fun w1 (hb : Below w.heap.size w w1) => T.later hb)
  have CW := Lib.hid (fun w1 (hb : Below w.heap.size w w1) => works w1 (TW.out w1 hb))
  obtain ⟨a', ha⟩ : ∃ d, cutC a = d := ⟨_, rfl⟩
  obtain ⟨b', hb⟩ : ∃ d, cutC b = d := ⟨_, rfl⟩
  have a'm : a'.s.size ≤ 1100 := ha ▸ cutC_size a
  have a'i : Cl.I64 a'.n := ha ▸ cutC_i64 a ai
  have b'm : b'.s.size ≤ 1100 := hb ▸ cutC_size b
  have b'i : Cl.I64 b'.n := hb ▸ cutC_i64 b bi
  have LA := Lib.hid (fun w => lCut a a' w am ha)
  have LB := Lib.hid (fun w => lCut b b' w bm hb)
  have H3 := Lib.hid (T3.start w u k a b)
  obtain ⟨e1, he1⟩ : ∃ e, Cl.chk u k a' = e := ⟨_, rfl⟩
  obtain ⟨e2, he2⟩ : ∃ e, Cl.chk u k b' = e := ⟨_, rfl⟩
  obtain ⟨x, hx⟩ : ∃ x, (if e1 = 0 then str (Cl.bts u k a') else ⟨#[]⟩) = x := ⟨_, rfl⟩
  obtain ⟨y, hy⟩ : ∃ y, (if e2 = 0 then str (Cl.bts u k b') else ⟨#[]⟩) = y := ⟨_, rfl⟩
  have CA := Lib.hid (fun w1 (hb : Below w.heap.size w w1) => bitss u k a' w1 (TW.out w1 hb) a'i (Nat.le_trans a'm (by decide)) e1 he1 x hx)
  have CB := Lib.hid (fun w1 (hb : Below w.heap.size w w1) => bitss u k b' w1 (TW.out w1 hb) b'i (Nat.le_trans b'm (by decide)) e2 he2 y hy)
  have FA := Lib.hid (fun (h1 : e1 = 0) (h2 : e2 = 0) => (⟨Cl.chk_ok (he1.trans h1), Cl.chk_ok (he2.trans h2), a'i, b'i, by rw [if_pos h1] at hx; exact hx, by rw [if_pos h2] at hy; exact hy⟩ : (Cl.may k = true ∧ Cl.of u k a' = true) ∧ (Cl.may k = true ∧ Cl.of u k b' = true) ∧ Cl.I64 a'.n ∧ Cl.I64 b'.n ∧ str (Cl.bts u k a') = x ∧ str (Cl.bts u k b') = y))
  clear hk ai am bi bm ha hb a'm a'i b'm b'i he1 he2 hx hy T
  obtain ⟨au, an, at_⟩ := a
  obtain ⟨bu, bn, bs⟩ := b
  unfold cv at LA LB CA CB ⊢
  unfold tv at CA CB ⊢
  simp only at LA LB H3 ⊢
  go_enter Tryz.func14, Tryz.ntmps14
  go_wp2_with fail
  ((with_reducible refine (CW.out _ H3.out.l).mono ?_); rintro e wb ⟨rfl, b0⟩)
  have P0 := Lib.hid (H3.out.later b0)
  clear b0 H3
  obtain ⟨a1, a2, a3⟩ := a'
  obtain ⟨b1, b2, b3⟩ := b'
  simp only at LA LB CA CB
  have kA : ∀ d os, _ := fun d os => (P0.out.a.later (below_regrown wb d os)).lie
  have kB : ∀ d os, _ := fun d os => (P0.out.b.later (below_regrown wb d os)).lie
  simp only at kA kB
  have cA := Lib.hid (fun d os => Calls.regrown_of (LA.out (grow (redrawn wb d) os)))
  have cB := Lib.hid (fun d os => Calls.regrown_of (LB.out (grow (redrawn wb d) os)))
  go_wp2_with fail
  refine wp_region_quiet_tail (C := fun w' => ∃ p : Regrown, w' = grow (redrawn wb p.d) p.os) 4 (by kernel_rfl) (by kernel_rfl) ⟨⟨wb.drawn + 1, #[]⟩, by rw [grow_empty]; rfl⟩ ?_
  simp only [List.take_succ_cons, List.take_zero, List.drop_succ_cons, List.drop_zero]
  iterate 4 (quiet_step (first | with_reducible exact cA.out _ _ | with_reducible exact cB.out _ _))
  refine wpQuiet_nil ?_
  intro w5 hw5
  have b5 : Below wb.heap.size wb w5 := by obtain ⟨p, rfl⟩ := hw5; exact below_regrown _ _ _
  clear hw5 kA kB cA cB LA LB
  have P5 := Lib.hid (P0.out.later b5)
  have P9 := Lib.hid (P5.out.put a1 a2 a3 b1 b2 b3)
  obtain ⟨t0, t1⟩ := P5.out.t.lie
  obtain ⟨x0, x1, x2⟩ := P5.out.a.lie
  obtain ⟨y0, y1, y2⟩ := P5.out.b.lie
  obtain ⟨f0, f1, f2⟩ := P5.out.a.free
  obtain ⟨g0, g1, g2⟩ := P5.out.b.free
  simp only at x0 x1 x2 y0 y1 y2
  clear b5 P0
  go_wp2_with fail
  obtain ⟨w9, h9⟩ : ∃ w9, ((((((w5.setCell ⟨w.heap.size + 1, 0, none⟩ (.bool a1)).setCell ⟨w.heap.size + 1, 1, none⟩ (.int .i64 a2)).setCell ⟨w.heap.size + 1, 2, none⟩ (.string a3)).setCell ⟨w.heap.size + 1 + 1, 0, none⟩ (.bool b1)).setCell ⟨w.heap.size + 1 + 1, 1, none⟩ (.int .i64 b2)).setCell ⟨w.heap.size + 1 + 1, 2, none⟩ (.string b3)) = w9 := ⟨_, rfl⟩
  rw [h9] at P9 ⊢
  clear h9 t0 t1 x0 x1 x2 y0 y1 y2 f0 f1 f2 g0 g1 g2 P5
  ((with_reducible refine (CA.out _ P9.out.l).mono ?_); rintro e w10 ⟨rfl, b10⟩)
  have P10 := Lib.hid (P9.out.later b10)
  clear b10
  obtain ⟨t0, t1⟩ := P10.out.t.lie
  obtain ⟨x0, x1, x2⟩ := P10.out.a.lie
  obtain ⟨y0, y1, y2⟩ := P10.out.b.lie
  simp only at x0 x1 x2 y0 y1 y2
  go_wp2_with fail
  clear t0 t1 x0 x1 x2 y0 y1 y2
  ((with_reducible refine (CB.out _ P10.out.l).mono ?_); rintro e w11 ⟨rfl, b11⟩)
  have P11 := Lib.hid (P10.out.later b11)
  clear b11
  obtain ⟨t0, t1⟩ := P11.out.t.lie
  obtain ⟨x0, x1, x2⟩ := P11.out.a.lie
  obtain ⟨y0, y1, y2⟩ := P11.out.b.lie
  simp only at x0 x1 x2 y0 y1 y2
  by_cases h1 : e1 = 0
  rotate_left
  · have h1' : ((e1 : Int) != 0) = true := by simp; omega
    clear h1
    go_wp2_with fail
    go_ret
    exact ⟨rfl, P11.out.l⟩
  by_cases h2 : e2 = 0
  rotate_left
  · have h1' : ((e1 : Int) != 0) = false := by simp; omega
    have h2' : ((e2 : Int) != 0) = true := by simp; omega
    clear h1 h2
    go_wp2_with fail
    go_ret
    exact ⟨rfl, P11.out.l⟩
  obtain ⟨⟨h3, h4⟩, ⟨_, h5⟩, h6, h7, h8, h9⟩ := FA.out h1 h2
  subst h1
  subst h2
  have Z1 := Cl.cmp_zero ⟨a1, a2, a3⟩ ⟨b1, b2, b3⟩
  have R1 := Cl.cmp_range ⟨a1, a2, a3⟩ ⟨b1, b2, b3⟩
  have LS := Lib.hid (fun hne => bits_less u k ⟨a1, a2, a3⟩ ⟨b1, b2, b3⟩ h3 h4 h5 h6 h7 hne x y h8 h9)
  have LE := Lib.hid (fun (he : (⟨a1, a2, a3⟩ : Cl.C) = ⟨b1, b2, b3⟩) => (show x = y by rw [← h8, ← h9, he]))
  have CC := Lib.hid (fun w => cCompare ⟨a1, a2, a3⟩ ⟨b1, b2, b3⟩ w _ rfl)
  have CP := Lib.hid (fun w => Tryz.strings_HasPrefix x y w)
  have CQ := Lib.hid (fun w => Tryz.strings_HasPrefix y x w)
  unfold cv at CC
  simp only at CC
  clear h3 h4 h5 h6 h7 h8 h9 FA
  obtain ⟨r, hr⟩ : ∃ r, Cl.cmp ⟨a1, a2, a3⟩ ⟨b1, b2, b3⟩ = r := ⟨_, rfl⟩
  rw [hr] at Z1 R1 CC
  by_cases h0 : r = 0
  · subst h0
    obtain rfl := LE.out (Z1.1 rfl)
    have l1 : Op.bytesLess x.toList x.toList = false := by rw [Tp.less_bl, Tp.less_irrefl]
    have l2 : (x.toList == x.toList) = true := by simp
    clear Z1 R1 hr
    go_wp2_with fail
    clear t0 t1 x0 x1 x2 y0 y1 y2
    ((with_reducible refine (CC.out _).mono ?_); rintro e w12 ⟨rfl, b12⟩)
    have P12 := Lib.hid (P11.out.later b12)
    clear b12
    obtain ⟨t0, t1⟩ := P12.out.t.lie
    obtain ⟨x0, x1, x2⟩ := P12.out.a.lie
    obtain ⟨y0, y1, y2⟩ := P12.out.b.lie
    simp only at x0 x1 x2 y0 y1 y2
    go_wp2_with fail
    go_ret
    exact ⟨rfl, P12.out.l⟩
  · obtain ⟨l1, l2, l3, l4⟩ := LS.out (fun e => h0 (Z1.2 e))
    rw [hr] at l1
    rw [l3] at CP
    rw [l4] at CQ
    have R : r = -1 ∨ r = 1 := by omega
    clear Z1 R1 l3 l4 hr h0
    rcases R with rfl | rfl
    · have l1 := l1.trans (show _ = true by decide)
      go_wp2_with fail
      clear t0 t1 x0 x1 x2 y0 y1 y2
      ((with_reducible refine (CC.out _).mono ?_); rintro e w12 ⟨rfl, b12⟩)
      have P12 := Lib.hid (P11.out.later b12)
      clear b12
      obtain ⟨t0, t1⟩ := P12.out.t.lie
      obtain ⟨x0, x1, x2⟩ := P12.out.a.lie
      obtain ⟨y0, y1, y2⟩ := P12.out.b.lie
      simp only at x0 x1 x2 y0 y1 y2
      go_wp2_with fail
      ((with_reducible refine (CP.out _).mono ?_); rintro e wp ⟨rfl, rfl⟩)
      go_wp2_with fail
      ((with_reducible refine (CQ.out _).mono ?_); rintro e wq ⟨rfl, rfl⟩)
      go_wp2_with fail
      go_ret
      exact ⟨rfl, P12.out.l⟩
    · have l1 := l1.trans (show _ = false by decide)
      go_wp2_with fail
      clear t0 t1 x0 x1 x2 y0 y1 y2
      ((with_reducible refine (CC.out _).mono ?_); rintro e w12 ⟨rfl, b12⟩)
      have P12 := Lib.hid (P11.out.later b12)
      clear b12
      obtain ⟨t0, t1⟩ := P12.out.t.lie
      obtain ⟨x0, x1, x2⟩ := P12.out.a.lie
      obtain ⟨y0, y1, y2⟩ := P12.out.b.lie
      simp only at x0 x1 x2 y0 y1 y2
      go_wp2_with fail
      ((with_reducible refine (CP.out _).mono ?_); rintro e wp ⟨rfl, rfl⟩)
      go_wp2_with fail
      ((with_reducible refine (CQ.out _).mono ?_); rintro e wq ⟨rfl, rfl⟩)
      go_wp2_with fail
      go_ret
      exact ⟨rfl, P12.out.l⟩
end Go.Proofs.YtffdgcdmbccodaaGreatDoor
