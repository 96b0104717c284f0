/- CellChecks' walk: May, Check, Zero and Compare answer as the reference's. -/
import Derived.Test.YtffdgcdmbccodaaGreatDoorClBitsW
import Derived.Test.YtffdgcdmbccodaaGreatDoorClRef
namespace Go.Proofs.YtffdgcdmbccodaaGreatDoor
open Go.RowKit Go.Sort
set_option linter.unusedVariables false
set_option maxRecDepth 100000

set_option maxHeartbeats 8000000 in
theorem cellChecks (u : Bool) (k : Int) (a b : Cl.C) (w : World) (hk : Cl.I64 k) (ai : Cl.I64 a.n) (am : a.s.size ≤ maxLen) (bi : Cl.I64 b.n) (bm : b.s.size ≤ maxLen) (T : TA w) :
    Calls Tryz.prog 8 #[tv u k, cv a, cv b] w fun e w' => e = .returned (.bool true) ∧ Below w.heap.size w w' := by
  have TW := Lib.hid (fun w1 (hb : Below w.heap.size w w1) => T.later hb)
  have CW := Lib.hid (fun w1 (hb : Below w.heap.size w w1) => works w1 (TW.out w1 hb))
  obtain ⟨a', ha⟩ : ∃ d, cutC a = d := ⟨_, rfl⟩
  obtain ⟨b', hb⟩ : ∃ d, cutC b = d := ⟨_, rfl⟩
  have a'm : a'.s.size ≤ 1000000 := Nat.le_trans (ha ▸ cutC_size a) (by decide)
  have a'i : Cl.I64 a'.n := ha ▸ cutC_i64 a ai
  have LA := Lib.hid (fun w => lCut a a' w am ha)
  have LB := Lib.hid (fun w => lCut b b' w bm hb)
  have H3 := Lib.hid (T3.start w u k a b)
  obtain ⟨e1, he1⟩ : ∃ e, Cl.chk u k a' = e := ⟨_, rfl⟩
  obtain ⟨m, hm⟩ : ∃ m, Cl.may k = m := ⟨_, rfl⟩
  obtain ⟨z, hz⟩ : ∃ z, (u && Cl.may k) = z := ⟨_, rfl⟩
  obtain ⟨r, hr⟩ : ∃ r, Cl.cmp a' b' = r := ⟨_, rfl⟩
  have HZ := fun w => run_eqc ⟨z, 0, ⟨#[]⟩⟩ ⟨z, 0, ⟨#[]⟩⟩ w
  rw [eqc_dec ⟨z, 0, ⟨#[]⟩⟩ ⟨z, 0, ⟨#[]⟩⟩ true (by simp)] at HZ
  have K1 := Lib.hid (fun w1 (hb : Below w.heap.size w w1) => cMay u k w1 m hm)
  have K2 := Lib.hid (fun w1 (hb : Below w.heap.size w w1) => rMay u k w1 m hm)
  have K3 := Lib.hid (fun w1 (hb : Below w.heap.size w w1) => checks u k a' w1 (TW.out w1 hb) a'i a'm e1 he1)
  have K4 := Lib.hid (fun w1 (hb : Below w.heap.size w w1) => rCheck u k a' w1 a'm e1 he1)
  have K5 := Lib.hid (fun w1 (hb : Below w.heap.size w w1) => cZero u k w1 z hz)
  have K6 := Lib.hid (fun w1 (hb : Below w.heap.size w w1) => rZero u k w1 z hz)
  have K7 := Lib.hid (fun w1 (hb : Below w.heap.size w w1) => cCompare a' b' w1 r hr)
  have K8 := Lib.hid (fun w1 (hb : Below w.heap.size w w1) => rCompare a' b' w1 r hr)
  clear hk ai am bi bm ha hb a'm a'i he1 hm hz hr T
  obtain ⟨au, an, at_⟩ := a
  obtain ⟨bu, bn, bs⟩ := b
  unfold cv at LA LB K3 K4 K5 K6 K7 K8 HZ ⊢
  unfold tv at K1 K2 K3 K4 K5 K6 ⊢
  simp only at LA LB H3 K5 K6 HZ ⊢
  go_enter Tryz.func8, Tryz.ntmps8
  go_wp2_with fail
  generalize (((w.alloc (.cells #[.int .i64 k, .bool u] 46)).alloc (.cells #[.bool au, .int .i64 an, .string at_] 48)).alloc (.cells #[.bool bu, .int .i64 bn, .string bs] 48)) = wb at *
  have P0 := H3
  obtain ⟨a1, a2, a3⟩ := a'
  obtain ⟨b1, b2, b3⟩ := b'
  simp only at LA LB K3 K4 K7 K8
  have kA : ∀ d os, _ := fun d os => (P0.out.a.later (below_regrown wb d os)).lie
  have kB : ∀ d os, _ := fun d os => (P0.out.b.later (below_regrown wb d os)).lie
  simp only at kA kB
  have cA := Lib.hid (fun d os => Calls.regrown_of (LA.out (grow (redrawn wb d) os)))
  have cB := Lib.hid (fun d os => Calls.regrown_of (LB.out (grow (redrawn wb d) os)))
  clear H3
  refine wp_region_quiet_tail (C := fun w' => ∃ p : Regrown, w' = grow (redrawn wb p.d) p.os) 4 (by kernel_rfl) (by kernel_rfl) ⟨⟨wb.drawn + 1, #[]⟩, by rw [grow_empty]; rfl⟩ ?_
  simp only [List.take_succ_cons, List.take_zero, List.drop_succ_cons, List.drop_zero]
  iterate 4 (quiet_step (first | with_reducible exact cA.out _ _ | with_reducible exact cB.out _ _))
  refine wpQuiet_nil ?_
  intro w5 hw5
  have b5 : Below wb.heap.size wb w5 := by obtain ⟨p, rfl⟩ := hw5; exact below_regrown _ _ _
  clear hw5 kA kB cA cB LA LB
  have P5 := Lib.hid (P0.out.later b5)
  have P9 := Lib.hid (P5.out.put a1 a2 a3 b1 b2 b3)
  obtain ⟨t0, t1⟩ := P5.out.t.lie
  obtain ⟨x0, x1, x2⟩ := P5.out.a.lie
  obtain ⟨y0, y1, y2⟩ := P5.out.b.lie
  obtain ⟨f0, f1, f2⟩ := P5.out.a.free
  obtain ⟨g0, g1, g2⟩ := P5.out.b.free
  simp only at x0 x1 x2 y0 y1 y2
  clear b5 P0
  go_wp2_with fail
  obtain ⟨w9, h9⟩ : ∃ w9, ((((((w5.setCell ⟨w.heap.size + 1, 0, none⟩ (.bool a1)).setCell ⟨w.heap.size + 1, 1, none⟩ (.int .i64 a2)).setCell ⟨w.heap.size + 1, 2, none⟩ (.string a3)).setCell ⟨w.heap.size + 1 + 1, 0, none⟩ (.bool b1)).setCell ⟨w.heap.size + 1 + 1, 1, none⟩ (.int .i64 b2)).setCell ⟨w.heap.size + 1 + 1, 2, none⟩ (.string b3)) = w9 := ⟨_, rfl⟩
  rw [h9] at P9 ⊢
  clear h9 t0 t1 x0 x1 x2 y0 y1 y2 f0 f1 f2 g0 g1 g2 P5
  have kT : ∀ d os, _ := fun d os => (P9.out.t.later (below_regrown w9 d os)).lie
  have kA : ∀ d os, _ := fun d os => (P9.out.a.later (below_regrown w9 d os)).lie
  have kB : ∀ d os, _ := fun d os => (P9.out.b.later (below_regrown w9 d os)).lie
  simp only at kA kB
  have BB := Lib.hid (fun d os => up P9.out.l (below_regrown w9 d os))
  have Q1 := Lib.hid (fun d os => Calls.regrown_of (K1.out _ (BB.out d os)))
  have Q2 := Lib.hid (fun d os => Calls.regrown_of (K2.out _ (BB.out d os)))
  have Q3 := Lib.hid (fun d os => Calls.regrown_of (K3.out _ (BB.out d os)))
  have Q4 := Lib.hid (fun d os => Calls.regrown_of (K4.out _ (BB.out d os)))
  have Q5 := Lib.hid (fun d os => Calls.regrown_of (K5.out _ (BB.out d os)))
  have Q6 := Lib.hid (fun d os => Calls.regrown_of (K6.out _ (BB.out d os)))
  have Q7 := Lib.hid (fun d os => Calls.regrown_of (K7.out _ (BB.out d os)))
  have Q8 := Lib.hid (fun d os => Calls.regrown_of (K8.out _ (BB.out d os)))
  have Q9 := Lib.hid (fun d os => Calls.regrown_of (CW.out _ (BB.out d os)))
  refine wp_region_quiet_below (by kernel_rfl) (by kernel_rfl) ?_
  iterate 34 (quiet_step (first | with_reducible exact Q1.out _ _ | with_reducible exact Q2.out _ _ | with_reducible exact Q3.out _ _ | with_reducible exact Q4.out _ _ | with_reducible exact Q5.out _ _ | with_reducible exact Q6.out _ _ | with_reducible exact Q7.out _ _ | with_reducible exact Q8.out _ _ | with_reducible exact Q9.out _ _))
  refine wpQuiet_nil ?_
  intro _ hw'
  obtain ⟨⟨dq, osq⟩, hw''⟩ := hw'
  subst hw''
  go_wp2_with fail
  go_ret
  exact ⟨rfl, BB.out dq osq⟩
end Go.Proofs.YtffdgcdmbccodaaGreatDoor
