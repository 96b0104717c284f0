/- Unbits of the program: the other kinds. -/
import Derived.Test.YtfplogjdcndohaaGreatDoorClUnb
namespace Go.Proofs.YtfplogjdcndohaaGreatDoor
open Go.RowKit
set_option linter.unusedVariables false
set_option maxRecDepth 100000

set_option maxHeartbeats 8000000 in
theorem unb4F (s s2 : ByteArray) (w : World) (T : TA w) (hm : s2.size ≤ 100000) (hcut : ∀ w, (Instr.slice 9 (.string s) (some (.int .i64 0)) none none).run Tryz.prog w = .ok (.string s2) w) : Calls Tryz.prog 54 #[tv false 4, .string s] w fun e w' => UbPost w (Cl.more false (Cl.bare 4 (bl s2))) e w' := by
  have HM := Lib.hid (fun w => cMay false 4 w true (by decide))
  have B0 := Lib.hid (BX.start w false 4 Cl.empty)
  have TW := Lib.hid (fun w1 (hb : Below w.heap.size w w1) => T.later hb)
  have CK := Lib.hid (fun w => kindOf4 false w)
  have CT := Lib.hid (fun w1 (hb : Below w.heap.size w w1) => (kf4.take s2 w1 (T.later hb) hm).mono (fun e w' h => (h : ∃ c n e0, e = _ ∧ Tk 4 (bl s2) c n e0 ∧ Below w1.heap.size w1 w')))
  clear T
  unfold tv kv4 at CK
  unfold Cl.empty at B0
  unfold tv at HM ⊢
  simp only at B0
  go_enter Tryz.func54, Tryz.ntmps54
  go_wp2_with fail
  ((with_reducible refine (HM.out _).mono ?_); rintro e w1 ⟨rfl, b1⟩)
  have BB := Lib.hid (B0.out.later b1)
  obtain ⟨t0, t1⟩ := BB.out.tlie
  clear b1
  go_wp2_with fail
  ((with_reducible refine (CK.out _).mono ?_); rintro e w2 ⟨rfl, b2⟩)
  have BC := Lib.hid (BB.out.later b2)
  obtain ⟨gk, hgk⟩ : ∃ n, w2.heap.size = n := ⟨_, rfl⟩
  have K3 := Blk.new w2 83 #[.func (Fn.func 80) #[] #[], .func (Fn.func 81) #[] #[], .func (Fn.func 82) #[] #[], .func (Fn.func 83) #[] #[], .func (Fn.func 84) #[] #[]]
  rw [hgk] at K3
  have b3 := box_new w2 (.cells #[.func (Fn.func 80) #[] #[], .func (Fn.func 81) #[] #[], .func (Fn.func 82) #[] #[], .func (Fn.func 83) #[] #[], .func (Fn.func 84) #[] #[]] 83)
  have B3 := BC.out.later b3
  have hne : gk ≠ w.heap.size + 1 := by
    have := BC.out.c.lt
    omega
  have HV := Lib.hid (show VU w gk (w.heap.size + 1) [.func (Fn.func 80) #[] #[], .func (Fn.func 81) #[] #[], .func (Fn.func 82) #[] #[], .func (Fn.func 83) #[] #[], .func (Fn.func 84) #[] #[]] (w2.alloc (.cells #[.func (Fn.func 80) #[] #[], .func (Fn.func 81) #[] #[], .func (Fn.func 82) #[] #[], .func (Fn.func 83) #[] #[], .func (Fn.func 84) #[] #[]] 83)) from ⟨B3.b, K3, Nat.le_succ _, hne, _, B3.c.heap, rfl⟩)
  clear b2 BB t0 t1 b3 K3 B3 BC
  go_wp2_with fail
  generalize w2.alloc (.cells #[.func (Fn.func 80) #[] #[], .func (Fn.func 81) #[] #[], .func (Fn.func 82) #[] #[], .func (Fn.func 83) #[] #[], .func (Fn.func 84) #[] #[]] 83) = W0 at *
  have C2 := Lib.hid (fun w1 (hv : VU w gk (w.heap.size + 1) [.func (Fn.func 80) #[] #[], .func (Fn.func 81) #[] #[], .func (Fn.func 82) #[] #[], .func (Fn.func 83) #[] #[], .func (Fn.func 84) #[] #[]] w1) => (CT.out w1 hv.1).mono (fun e w' h => (h : ∃ c n e0, e = _ ∧ Tk 4 (bl s2) c n e0 ∧ Below w1.heap.size w1 w')))
  go_region_held3 (fun w' => VU w gk (w.heap.size + 1) [.func (Fn.func 80) #[] #[], .func (Fn.func 81) #[] #[], .func (Fn.func 82) #[] #[], .func (Fn.func 83) #[] #[], .func (Fn.func 84) #[] #[]] w' ∧ w'.cell? ⟨gk, 4, none⟩ = some (.func (Fn.func 84) #[] #[]) ∧ (w'.cell? ⟨w.heap.size + 1, 0, none⟩ = some (gc w' ⟨w.heap.size + 1, 0, none⟩) ∧ w'.cell? ⟨w.heap.size + 1, 1, none⟩ = some (gc w' ⟨w.heap.size + 1, 1, none⟩) ∧ w'.cell? ⟨w.heap.size + 1, 2, none⟩ = some (gc w' ⟨w.heap.size + 1, 2, none⟩)) ∧
      w'.frozen? ⟨w.heap.size + 1, 0, none⟩ = false ∧ w'.frozen? ⟨w.heap.size + 1, 1, none⟩ = false ∧ w'.frozen? ⟨w.heap.size + 1, 2, none⟩ = false)
    (first | exact VU.keep HV.out | exact VU.keep (VU.later HV.out ((Below.refl _ _).drew)) | exact VU.keep HC.out | exact VU.keep (VU.set (VU.set (VU.set HC.out _ _) _ _) _ _) | fail "keep")
    ((first
      | (go_at_call 84; (with_reducible refine (C2.out _ (VU.later HV.out ((Below.refl _ _).drew))).mono ?_); rintro e wC ⟨c, n, e0, rfl, hk, b⟩; have HC := Lib.hid (VU.later (VU.later HV.out ((Below.refl _ _).drew)) b); have HK := Lib.hid hk; clear b hk; obtain ⟨gu, gn, gs⟩ := c; unfold cv; simp only)))
  rename_i hH
  clear hH
  have hm3 := HK.out.2.1
  have hn3 := HK.out.2.2.1
  rw [bl_length] at hn3
  have hE := unb_more false 4 (bl s2) ⟨gu, gn, gs⟩ n e0 HK.out
  obtain ⟨V3, U3⟩ := VU.three HC.out gu gn gs
  clear C2 CT CK HM HC HV hcut
  generalize ((wC.setCell ⟨w.heap.size + 1, 0, none⟩ (.bool gu)).setCell ⟨w.heap.size + 1, 1, none⟩ (.int .i64 gn)).setCell ⟨w.heap.size + 1, 2, none⟩ (.string gs) = w3 at *
  have k0 := U3.2.1.cell 0
  simp only [List.getElem?_cons_zero] at k0
  obtain ⟨v0, v1, v2⟩ := V3.lie
  obtain ⟨f0, f1, f2⟩ := V3.free
  simp only at v0 v1 v2
  have HV3 := Lib.hid V3
  have B3 := Lib.hid U3.1
  clear V3 U3
  have hnw : (n : Int) ≤ 100000 := by omega
  by_cases he : e0 = 0
  · subst he
    rw [if_neg (by decide)] at hE
    obtain ⟨r, hr⟩ : ∃ r, Cl.isK 4 ⟨gu, gn, gs⟩ = r := ⟨_, rfl⟩
    have CI := Lib.hid (fun w1 (hb : Below w.heap.size w w1) => kf4.is ⟨gu, gn, gs⟩ w1 r (TW.out w1 hb) HK.out.1 (Nat.le_trans hm3 (by decide)) hr)
    unfold cv at CI
    simp only at CI
    rw [hr] at hE
    clear hr hn3 hm3
    cases r with
    | false =>
      rw [if_neg (by decide)] at hE
      have HE := Lib.hid hE
      clear hE
      go_wp2_with fail
      ((with_reducible refine (CI.out _ B3.out).mono ?_); rintro e w6 ⟨rfl, b6⟩)
      have V6 := HV3.out.later b6
      have B6 := Lib.hid (up B3.out b6)
      obtain ⟨c0, c1, c2⟩ := V6.lie
      obtain ⟨g0, g1, g2⟩ := V6.free
      simp only at c0 c1 c2
      have HV6 := Lib.hid V6
      clear b6 k0 v0 v1 v2 f0 f1 f2 V6
      go_wp2_with fail
      exact bodyPost_ret (ret3 rfl _ _ (w.heap.size + 1) _ rfl (HV6.out.put _ _ _).heap) rfl ⟨by rw [HE.out]; rfl, put_below (Nat.le_succ _) B6.out _ _ _⟩
    | true =>
      rw [if_pos rfl] at hE
      have HE := Lib.hid hE
      clear hE
      go_wp2_with fail
      ((with_reducible refine (CI.out _ B3.out).mono ?_); rintro e w6 ⟨rfl, b6⟩)
      have V6 := HV3.out.later b6
      have B6 := Lib.hid (up B3.out b6)
      obtain ⟨c0, c1, c2⟩ := V6.lie
      obtain ⟨g0, g1, g2⟩ := V6.free
      simp only at c0 c1 c2
      have HV6 := Lib.hid V6
      clear b6 k0 v0 v1 v2 f0 f1 f2 V6
      go_wp2_with fail
      exact bodyPost_ret (ret3 rfl _ _ (w.heap.size + 1) _ rfl (HV6.out.put _ _ _).heap) rfl ⟨by rw [HE.out]; simp, put_below (Nat.le_succ _) B6.out _ _ _⟩
  · rw [if_pos he] at hE
    have HE := Lib.hid hE
    clear hE
    have he2 : ((e0 : Int) == 0) = false := by simp; omega
    have he3 : ((e0 : Int) != 0) = true := by simp; omega
    have HQ := Lib.hid he
    clear he hn3 hm3
    go_wp2_with fail
    exact bodyPost_ret (ret3 rfl _ _ (w.heap.size + 1) _ rfl (HV3.out.put _ _ _).heap) rfl ⟨by rw [HE.out]; rfl, put_below (Nat.le_succ _) B3.out _ _ _⟩

set_option maxHeartbeats 8000000 in
theorem unb4T (s s2 : ByteArray) (w : World) (T : TA w) (hm : s2.size ≤ 100000) (h1 : 1 ≤ s.size) (hy : ty (bl s) = (true, 1, 0)) (hcut : ∀ w, (Instr.slice 9 (.string s) (some (.int .i64 1)) none none).run Tryz.prog w = .ok (.string s2) w) : Calls Tryz.prog 54 #[tv true 4, .string s] w fun e w' => UbPost w (Cl.more true (Cl.bare 4 (bl s2))) e w' := by
  have HM := Lib.hid (fun w => cMay true 4 w true (by decide))
  have B0 := Lib.hid (BX.start w true 4 Cl.empty)
  have TW := Lib.hid (fun w1 (hb : Below w.heap.size w w1) => T.later hb)
  have CK := Lib.hid (fun w => kindOf4 true w)
  have CT := Lib.hid (fun w1 (hb : Below w.heap.size w w1) => (kf4.take s2 w1 (T.later hb) hm).mono (fun e w' h => (h : ∃ c n e0, e = _ ∧ Tk 4 (bl s2) c n e0 ∧ Below w1.heap.size w1 w')))
  have HY := Lib.hid (fun w => cTakeYes s w true 1 0 hy)
  have H1 := Lib.hid h1
  clear hy h1
  clear T
  unfold tv kv4 at CK
  unfold Cl.empty at B0
  unfold tv at HM ⊢
  simp only at B0
  go_enter Tryz.func54, Tryz.ntmps54
  go_wp2_with fail
  ((with_reducible refine (HM.out _).mono ?_); rintro e w1 ⟨rfl, b1⟩)
  have BB := Lib.hid (B0.out.later b1)
  obtain ⟨t0, t1⟩ := BB.out.tlie
  clear b1
  go_wp2_with fail
  ((with_reducible refine (HY.out _).mono ?_); rintro e w9 ⟨rfl, rfl⟩)
  go_wp2_with fail
  ((with_reducible refine (CK.out _).mono ?_); rintro e w2 ⟨rfl, b2⟩)
  have BC := Lib.hid (BB.out.later b2)
  obtain ⟨gk, hgk⟩ : ∃ n, w2.heap.size = n := ⟨_, rfl⟩
  have K3 := Blk.new w2 83 #[.func (Fn.func 80) #[] #[], .func (Fn.func 81) #[] #[], .func (Fn.func 82) #[] #[], .func (Fn.func 83) #[] #[], .func (Fn.func 84) #[] #[]]
  rw [hgk] at K3
  have b3 := box_new w2 (.cells #[.func (Fn.func 80) #[] #[], .func (Fn.func 81) #[] #[], .func (Fn.func 82) #[] #[], .func (Fn.func 83) #[] #[], .func (Fn.func 84) #[] #[]] 83)
  have B3 := BC.out.later b3
  have hne : gk ≠ w.heap.size + 1 := by
    have := BC.out.c.lt
    omega
  have HV := Lib.hid (show VU w gk (w.heap.size + 1) [.func (Fn.func 80) #[] #[], .func (Fn.func 81) #[] #[], .func (Fn.func 82) #[] #[], .func (Fn.func 83) #[] #[], .func (Fn.func 84) #[] #[]] (w2.alloc (.cells #[.func (Fn.func 80) #[] #[], .func (Fn.func 81) #[] #[], .func (Fn.func 82) #[] #[], .func (Fn.func 83) #[] #[], .func (Fn.func 84) #[] #[]] 83)) from ⟨B3.b, K3, Nat.le_succ _, hne, _, B3.c.heap, rfl⟩)
  clear b2 BB t0 t1 b3 K3 B3 BC
  go_wp2_with fail
  generalize w2.alloc (.cells #[.func (Fn.func 80) #[] #[], .func (Fn.func 81) #[] #[], .func (Fn.func 82) #[] #[], .func (Fn.func 83) #[] #[], .func (Fn.func 84) #[] #[]] 83) = W0 at *
  have C2 := Lib.hid (fun w1 (hv : VU w gk (w.heap.size + 1) [.func (Fn.func 80) #[] #[], .func (Fn.func 81) #[] #[], .func (Fn.func 82) #[] #[], .func (Fn.func 83) #[] #[], .func (Fn.func 84) #[] #[]] w1) => (CT.out w1 hv.1).mono (fun e w' h => (h : ∃ c n e0, e = _ ∧ Tk 4 (bl s2) c n e0 ∧ Below w1.heap.size w1 w')))
  go_region_held3 (fun w' => VU w gk (w.heap.size + 1) [.func (Fn.func 80) #[] #[], .func (Fn.func 81) #[] #[], .func (Fn.func 82) #[] #[], .func (Fn.func 83) #[] #[], .func (Fn.func 84) #[] #[]] w' ∧ w'.cell? ⟨gk, 4, none⟩ = some (.func (Fn.func 84) #[] #[]) ∧ (w'.cell? ⟨w.heap.size + 1, 0, none⟩ = some (gc w' ⟨w.heap.size + 1, 0, none⟩) ∧ w'.cell? ⟨w.heap.size + 1, 1, none⟩ = some (gc w' ⟨w.heap.size + 1, 1, none⟩) ∧ w'.cell? ⟨w.heap.size + 1, 2, none⟩ = some (gc w' ⟨w.heap.size + 1, 2, none⟩)) ∧
      w'.frozen? ⟨w.heap.size + 1, 0, none⟩ = false ∧ w'.frozen? ⟨w.heap.size + 1, 1, none⟩ = false ∧ w'.frozen? ⟨w.heap.size + 1, 2, none⟩ = false)
    (first | exact VU.keep HV.out | exact VU.keep (VU.later HV.out ((Below.refl _ _).drew)) | exact VU.keep HC.out | exact VU.keep (VU.set (VU.set (VU.set HC.out _ _) _ _) _ _) | fail "keep")
    ((first
      | (go_at_call 84; (with_reducible refine (C2.out _ (VU.later HV.out ((Below.refl _ _).drew))).mono ?_); rintro e wC ⟨c, n, e0, rfl, hk, b⟩; have HC := Lib.hid (VU.later (VU.later HV.out ((Below.refl _ _).drew)) b); have HK := Lib.hid hk; clear b hk; obtain ⟨gu, gn, gs⟩ := c; unfold cv; simp only)))
  rename_i hH
  clear hH
  have hm3 := HK.out.2.1
  have hn3 := HK.out.2.2.1
  rw [bl_length] at hn3
  have hE := unb_more true 4 (bl s2) ⟨gu, gn, gs⟩ n e0 HK.out
  obtain ⟨V3, U3⟩ := VU.three HC.out gu gn gs
  clear C2 CT CK HM HC HV hcut
  generalize ((wC.setCell ⟨w.heap.size + 1, 0, none⟩ (.bool gu)).setCell ⟨w.heap.size + 1, 1, none⟩ (.int .i64 gn)).setCell ⟨w.heap.size + 1, 2, none⟩ (.string gs) = w3 at *
  have k0 := U3.2.1.cell 0
  simp only [List.getElem?_cons_zero] at k0
  obtain ⟨v0, v1, v2⟩ := V3.lie
  obtain ⟨f0, f1, f2⟩ := V3.free
  simp only at v0 v1 v2
  have HV3 := Lib.hid V3
  have B3 := Lib.hid U3.1
  clear V3 U3
  have hnw : (n : Int) ≤ 100000 := by omega
  by_cases he : e0 = 0
  · subst he
    rw [if_neg (by decide)] at hE
    obtain ⟨r, hr⟩ : ∃ r, Cl.isK 4 ⟨gu, gn, gs⟩ = r := ⟨_, rfl⟩
    have CI := Lib.hid (fun w1 (hb : Below w.heap.size w w1) => kf4.is ⟨gu, gn, gs⟩ w1 r (TW.out w1 hb) HK.out.1 (Nat.le_trans hm3 (by decide)) hr)
    unfold cv at CI
    simp only at CI
    rw [hr] at hE
    clear hr hn3 hm3
    cases r with
    | false =>
      rw [if_neg (by decide)] at hE
      have HE := Lib.hid hE
      clear hE
      go_wp2_with fail
      ((with_reducible refine (CI.out _ B3.out).mono ?_); rintro e w6 ⟨rfl, b6⟩)
      have V6 := HV3.out.later b6
      have B6 := Lib.hid (up B3.out b6)
      obtain ⟨c0, c1, c2⟩ := V6.lie
      obtain ⟨g0, g1, g2⟩ := V6.free
      simp only at c0 c1 c2
      have HV6 := Lib.hid V6
      clear b6 k0 v0 v1 v2 f0 f1 f2 V6
      go_wp2_with fail
      exact bodyPost_ret (ret3 rfl _ _ (w.heap.size + 1) _ rfl (HV6.out.put _ _ _).heap) rfl ⟨by rw [HE.out]; rfl, put_below (Nat.le_succ _) B6.out _ _ _⟩
    | true =>
      rw [if_pos rfl] at hE
      have HE := Lib.hid hE
      clear hE
      go_wp2_with fail
      ((with_reducible refine (CI.out _ B3.out).mono ?_); rintro e w6 ⟨rfl, b6⟩)
      have V6 := HV3.out.later b6
      have B6 := Lib.hid (up B3.out b6)
      obtain ⟨c0, c1, c2⟩ := V6.lie
      obtain ⟨g0, g1, g2⟩ := V6.free
      simp only at c0 c1 c2
      have HV6 := Lib.hid V6
      clear b6 k0 v0 v1 v2 f0 f1 f2 V6
      go_wp2_with fail
      exact bodyPost_ret (ret3 rfl _ _ (w.heap.size + 1) _ rfl (HV6.out.put _ _ _).heap) rfl ⟨by rw [HE.out]; simp, put_below (Nat.le_succ _) B6.out _ _ _⟩
  · rw [if_pos he] at hE
    have HE := Lib.hid hE
    clear hE
    have he2 : ((e0 : Int) == 0) = false := by simp; omega
    have he3 : ((e0 : Int) != 0) = true := by simp; omega
    have HQ := Lib.hid he
    clear he hn3 hm3
    go_wp2_with fail
    exact bodyPost_ret (ret3 rfl _ _ (w.heap.size + 1) _ rfl (HV3.out.put _ _ _).heap) rfl ⟨by rw [HE.out]; rfl, put_below (Nat.le_succ _) B3.out _ _ _⟩

set_option maxHeartbeats 8000000 in
theorem unb5F (s s2 : ByteArray) (w : World) (T : TA w) (hm : s2.size ≤ 100000) (hcut : ∀ w, (Instr.slice 9 (.string s) (some (.int .i64 0)) none none).run Tryz.prog w = .ok (.string s2) w) : Calls Tryz.prog 54 #[tv false 5, .string s] w fun e w' => UbPost w (Cl.more false (Cl.bare 5 (bl s2))) e w' := by
  have HM := Lib.hid (fun w => cMay false 5 w true (by decide))
  have B0 := Lib.hid (BX.start w false 5 Cl.empty)
  have TW := Lib.hid (fun w1 (hb : Below w.heap.size w w1) => T.later hb)
  have CK := Lib.hid (fun w => kindOf5 false w)
  have CT := Lib.hid (fun w1 (hb : Below w.heap.size w w1) => (kf5.take s2 w1 (T.later hb) hm).mono (fun e w' h => (h : ∃ c n e0, e = _ ∧ Tk 5 (bl s2) c n e0 ∧ Below w1.heap.size w1 w')))
  clear T
  unfold tv kv5 at CK
  unfold Cl.empty at B0
  unfold tv at HM ⊢
  simp only at B0
  go_enter Tryz.func54, Tryz.ntmps54
  go_wp2_with fail
  ((with_reducible refine (HM.out _).mono ?_); rintro e w1 ⟨rfl, b1⟩)
  have BB := Lib.hid (B0.out.later b1)
  obtain ⟨t0, t1⟩ := BB.out.tlie
  clear b1
  go_wp2_with fail
  ((with_reducible refine (CK.out _).mono ?_); rintro e w2 ⟨rfl, b2⟩)
  have BC := Lib.hid (BB.out.later b2)
  obtain ⟨gk, hgk⟩ : ∃ n, w2.heap.size = n := ⟨_, rfl⟩
  have K3 := Blk.new w2 83 #[.func (Fn.func 85) #[] #[], .func (Fn.func 86) #[] #[], .func (Fn.func 87) #[] #[], .func (Fn.func 83) #[] #[], .func (Fn.func 84) #[] #[]]
  rw [hgk] at K3
  have b3 := box_new w2 (.cells #[.func (Fn.func 85) #[] #[], .func (Fn.func 86) #[] #[], .func (Fn.func 87) #[] #[], .func (Fn.func 83) #[] #[], .func (Fn.func 84) #[] #[]] 83)
  have B3 := BC.out.later b3
  have hne : gk ≠ w.heap.size + 1 := by
    have := BC.out.c.lt
    omega
  have HV := Lib.hid (show VU w gk (w.heap.size + 1) [.func (Fn.func 85) #[] #[], .func (Fn.func 86) #[] #[], .func (Fn.func 87) #[] #[], .func (Fn.func 83) #[] #[], .func (Fn.func 84) #[] #[]] (w2.alloc (.cells #[.func (Fn.func 85) #[] #[], .func (Fn.func 86) #[] #[], .func (Fn.func 87) #[] #[], .func (Fn.func 83) #[] #[], .func (Fn.func 84) #[] #[]] 83)) from ⟨B3.b, K3, Nat.le_succ _, hne, _, B3.c.heap, rfl⟩)
  clear b2 BB t0 t1 b3 K3 B3 BC
  go_wp2_with fail
  generalize w2.alloc (.cells #[.func (Fn.func 85) #[] #[], .func (Fn.func 86) #[] #[], .func (Fn.func 87) #[] #[], .func (Fn.func 83) #[] #[], .func (Fn.func 84) #[] #[]] 83) = W0 at *
  have C2 := Lib.hid (fun w1 (hv : VU w gk (w.heap.size + 1) [.func (Fn.func 85) #[] #[], .func (Fn.func 86) #[] #[], .func (Fn.func 87) #[] #[], .func (Fn.func 83) #[] #[], .func (Fn.func 84) #[] #[]] w1) => (CT.out w1 hv.1).mono (fun e w' h => (h : ∃ c n e0, e = _ ∧ Tk 5 (bl s2) c n e0 ∧ Below w1.heap.size w1 w')))
  go_region_held3 (fun w' => VU w gk (w.heap.size + 1) [.func (Fn.func 85) #[] #[], .func (Fn.func 86) #[] #[], .func (Fn.func 87) #[] #[], .func (Fn.func 83) #[] #[], .func (Fn.func 84) #[] #[]] w' ∧ w'.cell? ⟨gk, 4, none⟩ = some (.func (Fn.func 84) #[] #[]) ∧ (w'.cell? ⟨w.heap.size + 1, 0, none⟩ = some (gc w' ⟨w.heap.size + 1, 0, none⟩) ∧ w'.cell? ⟨w.heap.size + 1, 1, none⟩ = some (gc w' ⟨w.heap.size + 1, 1, none⟩) ∧ w'.cell? ⟨w.heap.size + 1, 2, none⟩ = some (gc w' ⟨w.heap.size + 1, 2, none⟩)) ∧
      w'.frozen? ⟨w.heap.size + 1, 0, none⟩ = false ∧ w'.frozen? ⟨w.heap.size + 1, 1, none⟩ = false ∧ w'.frozen? ⟨w.heap.size + 1, 2, none⟩ = false)
    (first | exact VU.keep HV.out | exact VU.keep (VU.later HV.out ((Below.refl _ _).drew)) | exact VU.keep HC.out | exact VU.keep (VU.set (VU.set (VU.set HC.out _ _) _ _) _ _) | fail "keep")
    ((first
      | (go_at_call 84; (with_reducible refine (C2.out _ (VU.later HV.out ((Below.refl _ _).drew))).mono ?_); rintro e wC ⟨c, n, e0, rfl, hk, b⟩; have HC := Lib.hid (VU.later (VU.later HV.out ((Below.refl _ _).drew)) b); have HK := Lib.hid hk; clear b hk; obtain ⟨gu, gn, gs⟩ := c; unfold cv; simp only)))
  rename_i hH
  clear hH
  have hm3 := HK.out.2.1
  have hn3 := HK.out.2.2.1
  rw [bl_length] at hn3
  have hE := unb_more false 5 (bl s2) ⟨gu, gn, gs⟩ n e0 HK.out
  obtain ⟨V3, U3⟩ := VU.three HC.out gu gn gs
  clear C2 CT CK HM HC HV hcut
  generalize ((wC.setCell ⟨w.heap.size + 1, 0, none⟩ (.bool gu)).setCell ⟨w.heap.size + 1, 1, none⟩ (.int .i64 gn)).setCell ⟨w.heap.size + 1, 2, none⟩ (.string gs) = w3 at *
  have k0 := U3.2.1.cell 0
  simp only [List.getElem?_cons_zero] at k0
  obtain ⟨v0, v1, v2⟩ := V3.lie
  obtain ⟨f0, f1, f2⟩ := V3.free
  simp only at v0 v1 v2
  have HV3 := Lib.hid V3
  have B3 := Lib.hid U3.1
  clear V3 U3
  have hnw : (n : Int) ≤ 100000 := by omega
  by_cases he : e0 = 0
  · subst he
    rw [if_neg (by decide)] at hE
    obtain ⟨r, hr⟩ : ∃ r, Cl.isK 5 ⟨gu, gn, gs⟩ = r := ⟨_, rfl⟩
    have CI := Lib.hid (fun w1 (hb : Below w.heap.size w w1) => kf5.is ⟨gu, gn, gs⟩ w1 r (TW.out w1 hb) HK.out.1 (Nat.le_trans hm3 (by decide)) hr)
    unfold cv at CI
    simp only at CI
    rw [hr] at hE
    clear hr hn3 hm3
    cases r with
    | false =>
      rw [if_neg (by decide)] at hE
      have HE := Lib.hid hE
      clear hE
      go_wp2_with fail
      ((with_reducible refine (CI.out _ B3.out).mono ?_); rintro e w6 ⟨rfl, b6⟩)
      have V6 := HV3.out.later b6
      have B6 := Lib.hid (up B3.out b6)
      obtain ⟨c0, c1, c2⟩ := V6.lie
      obtain ⟨g0, g1, g2⟩ := V6.free
      simp only at c0 c1 c2
      have HV6 := Lib.hid V6
      clear b6 k0 v0 v1 v2 f0 f1 f2 V6
      go_wp2_with fail
      exact bodyPost_ret (ret3 rfl _ _ (w.heap.size + 1) _ rfl (HV6.out.put _ _ _).heap) rfl ⟨by rw [HE.out]; rfl, put_below (Nat.le_succ _) B6.out _ _ _⟩
    | true =>
      rw [if_pos rfl] at hE
      have HE := Lib.hid hE
      clear hE
      go_wp2_with fail
      ((with_reducible refine (CI.out _ B3.out).mono ?_); rintro e w6 ⟨rfl, b6⟩)
      have V6 := HV3.out.later b6
      have B6 := Lib.hid (up B3.out b6)
      obtain ⟨c0, c1, c2⟩ := V6.lie
      obtain ⟨g0, g1, g2⟩ := V6.free
      simp only at c0 c1 c2
      have HV6 := Lib.hid V6
      clear b6 k0 v0 v1 v2 f0 f1 f2 V6
      go_wp2_with fail
      exact bodyPost_ret (ret3 rfl _ _ (w.heap.size + 1) _ rfl (HV6.out.put _ _ _).heap) rfl ⟨by rw [HE.out]; simp, put_below (Nat.le_succ _) B6.out _ _ _⟩
  · rw [if_pos he] at hE
    have HE := Lib.hid hE
    clear hE
    have he2 : ((e0 : Int) == 0) = false := by simp; omega
    have he3 : ((e0 : Int) != 0) = true := by simp; omega
    have HQ := Lib.hid he
    clear he hn3 hm3
    go_wp2_with fail
    exact bodyPost_ret (ret3 rfl _ _ (w.heap.size + 1) _ rfl (HV3.out.put _ _ _).heap) rfl ⟨by rw [HE.out]; rfl, put_below (Nat.le_succ _) B3.out _ _ _⟩

set_option maxHeartbeats 8000000 in
theorem unb5T (s s2 : ByteArray) (w : World) (T : TA w) (hm : s2.size ≤ 100000) (h1 : 1 ≤ s.size) (hy : ty (bl s) = (true, 1, 0)) (hcut : ∀ w, (Instr.slice 9 (.string s) (some (.int .i64 1)) none none).run Tryz.prog w = .ok (.string s2) w) : Calls Tryz.prog 54 #[tv true 5, .string s] w fun e w' => UbPost w (Cl.more true (Cl.bare 5 (bl s2))) e w' := by
  have HM := Lib.hid (fun w => cMay true 5 w true (by decide))
  have B0 := Lib.hid (BX.start w true 5 Cl.empty)
  have TW := Lib.hid (fun w1 (hb : Below w.heap.size w w1) => T.later hb)
  have CK := Lib.hid (fun w => kindOf5 true w)
  have CT := Lib.hid (fun w1 (hb : Below w.heap.size w w1) => (kf5.take s2 w1 (T.later hb) hm).mono (fun e w' h => (h : ∃ c n e0, e = _ ∧ Tk 5 (bl s2) c n e0 ∧ Below w1.heap.size w1 w')))
  have HY := Lib.hid (fun w => cTakeYes s w true 1 0 hy)
  have H1 := Lib.hid h1
  clear hy h1
  clear T
  unfold tv kv5 at CK
  unfold Cl.empty at B0
  unfold tv at HM ⊢
  simp only at B0
  go_enter Tryz.func54, Tryz.ntmps54
  go_wp2_with fail
  ((with_reducible refine (HM.out _).mono ?_); rintro e w1 ⟨rfl, b1⟩)
  have BB := Lib.hid (B0.out.later b1)
  obtain ⟨t0, t1⟩ := BB.out.tlie
  clear b1
  go_wp2_with fail
  ((with_reducible refine (HY.out _).mono ?_); rintro e w9 ⟨rfl, rfl⟩)
  go_wp2_with fail
  ((with_reducible refine (CK.out _).mono ?_); rintro e w2 ⟨rfl, b2⟩)
  have BC := Lib.hid (BB.out.later b2)
  obtain ⟨gk, hgk⟩ : ∃ n, w2.heap.size = n := ⟨_, rfl⟩
  have K3 := Blk.new w2 83 #[.func (Fn.func 85) #[] #[], .func (Fn.func 86) #[] #[], .func (Fn.func 87) #[] #[], .func (Fn.func 83) #[] #[], .func (Fn.func 84) #[] #[]]
  rw [hgk] at K3
  have b3 := box_new w2 (.cells #[.func (Fn.func 85) #[] #[], .func (Fn.func 86) #[] #[], .func (Fn.func 87) #[] #[], .func (Fn.func 83) #[] #[], .func (Fn.func 84) #[] #[]] 83)
  have B3 := BC.out.later b3
  have hne : gk ≠ w.heap.size + 1 := by
    have := BC.out.c.lt
    omega
  have HV := Lib.hid (show VU w gk (w.heap.size + 1) [.func (Fn.func 85) #[] #[], .func (Fn.func 86) #[] #[], .func (Fn.func 87) #[] #[], .func (Fn.func 83) #[] #[], .func (Fn.func 84) #[] #[]] (w2.alloc (.cells #[.func (Fn.func 85) #[] #[], .func (Fn.func 86) #[] #[], .func (Fn.func 87) #[] #[], .func (Fn.func 83) #[] #[], .func (Fn.func 84) #[] #[]] 83)) from ⟨B3.b, K3, Nat.le_succ _, hne, _, B3.c.heap, rfl⟩)
  clear b2 BB t0 t1 b3 K3 B3 BC
  go_wp2_with fail
  generalize w2.alloc (.cells #[.func (Fn.func 85) #[] #[], .func (Fn.func 86) #[] #[], .func (Fn.func 87) #[] #[], .func (Fn.func 83) #[] #[], .func (Fn.func 84) #[] #[]] 83) = W0 at *
  have C2 := Lib.hid (fun w1 (hv : VU w gk (w.heap.size + 1) [.func (Fn.func 85) #[] #[], .func (Fn.func 86) #[] #[], .func (Fn.func 87) #[] #[], .func (Fn.func 83) #[] #[], .func (Fn.func 84) #[] #[]] w1) => (CT.out w1 hv.1).mono (fun e w' h => (h : ∃ c n e0, e = _ ∧ Tk 5 (bl s2) c n e0 ∧ Below w1.heap.size w1 w')))
  go_region_held3 (fun w' => VU w gk (w.heap.size + 1) [.func (Fn.func 85) #[] #[], .func (Fn.func 86) #[] #[], .func (Fn.func 87) #[] #[], .func (Fn.func 83) #[] #[], .func (Fn.func 84) #[] #[]] w' ∧ w'.cell? ⟨gk, 4, none⟩ = some (.func (Fn.func 84) #[] #[]) ∧ (w'.cell? ⟨w.heap.size + 1, 0, none⟩ = some (gc w' ⟨w.heap.size + 1, 0, none⟩) ∧ w'.cell? ⟨w.heap.size + 1, 1, none⟩ = some (gc w' ⟨w.heap.size + 1, 1, none⟩) ∧ w'.cell? ⟨w.heap.size + 1, 2, none⟩ = some (gc w' ⟨w.heap.size + 1, 2, none⟩)) ∧
      w'.frozen? ⟨w.heap.size + 1, 0, none⟩ = false ∧ w'.frozen? ⟨w.heap.size + 1, 1, none⟩ = false ∧ w'.frozen? ⟨w.heap.size + 1, 2, none⟩ = false)
    (first | exact VU.keep HV.out | exact VU.keep (VU.later HV.out ((Below.refl _ _).drew)) | exact VU.keep HC.out | exact VU.keep (VU.set (VU.set (VU.set HC.out _ _) _ _) _ _) | fail "keep")
    ((first
      | (go_at_call 84; (with_reducible refine (C2.out _ (VU.later HV.out ((Below.refl _ _).drew))).mono ?_); rintro e wC ⟨c, n, e0, rfl, hk, b⟩; have HC := Lib.hid (VU.later (VU.later HV.out ((Below.refl _ _).drew)) b); have HK := Lib.hid hk; clear b hk; obtain ⟨gu, gn, gs⟩ := c; unfold cv; simp only)))
  rename_i hH
  clear hH
  have hm3 := HK.out.2.1
  have hn3 := HK.out.2.2.1
  rw [bl_length] at hn3
  have hE := unb_more true 5 (bl s2) ⟨gu, gn, gs⟩ n e0 HK.out
  obtain ⟨V3, U3⟩ := VU.three HC.out gu gn gs
  clear C2 CT CK HM HC HV hcut
  generalize ((wC.setCell ⟨w.heap.size + 1, 0, none⟩ (.bool gu)).setCell ⟨w.heap.size + 1, 1, none⟩ (.int .i64 gn)).setCell ⟨w.heap.size + 1, 2, none⟩ (.string gs) = w3 at *
  have k0 := U3.2.1.cell 0
  simp only [List.getElem?_cons_zero] at k0
  obtain ⟨v0, v1, v2⟩ := V3.lie
  obtain ⟨f0, f1, f2⟩ := V3.free
  simp only at v0 v1 v2
  have HV3 := Lib.hid V3
  have B3 := Lib.hid U3.1
  clear V3 U3
  have hnw : (n : Int) ≤ 100000 := by omega
  by_cases he : e0 = 0
  · subst he
    rw [if_neg (by decide)] at hE
    obtain ⟨r, hr⟩ : ∃ r, Cl.isK 5 ⟨gu, gn, gs⟩ = r := ⟨_, rfl⟩
    have CI := Lib.hid (fun w1 (hb : Below w.heap.size w w1) => kf5.is ⟨gu, gn, gs⟩ w1 r (TW.out w1 hb) HK.out.1 (Nat.le_trans hm3 (by decide)) hr)
    unfold cv at CI
    simp only at CI
    rw [hr] at hE
    clear hr hn3 hm3
    cases r with
    | false =>
      rw [if_neg (by decide)] at hE
      have HE := Lib.hid hE
      clear hE
      go_wp2_with fail
      ((with_reducible refine (CI.out _ B3.out).mono ?_); rintro e w6 ⟨rfl, b6⟩)
      have V6 := HV3.out.later b6
      have B6 := Lib.hid (up B3.out b6)
      obtain ⟨c0, c1, c2⟩ := V6.lie
      obtain ⟨g0, g1, g2⟩ := V6.free
      simp only at c0 c1 c2
      have HV6 := Lib.hid V6
      clear b6 k0 v0 v1 v2 f0 f1 f2 V6
      go_wp2_with fail
      exact bodyPost_ret (ret3 rfl _ _ (w.heap.size + 1) _ rfl (HV6.out.put _ _ _).heap) rfl ⟨by rw [HE.out]; rfl, put_below (Nat.le_succ _) B6.out _ _ _⟩
    | true =>
      rw [if_pos rfl] at hE
      have HE := Lib.hid hE
      clear hE
      go_wp2_with fail
      ((with_reducible refine (CI.out _ B3.out).mono ?_); rintro e w6 ⟨rfl, b6⟩)
      have V6 := HV3.out.later b6
      have B6 := Lib.hid (up B3.out b6)
      obtain ⟨c0, c1, c2⟩ := V6.lie
      obtain ⟨g0, g1, g2⟩ := V6.free
      simp only at c0 c1 c2
      have HV6 := Lib.hid V6
      clear b6 k0 v0 v1 v2 f0 f1 f2 V6
      go_wp2_with fail
      exact bodyPost_ret (ret3 rfl _ _ (w.heap.size + 1) _ rfl (HV6.out.put _ _ _).heap) rfl ⟨by rw [HE.out]; simp, put_below (Nat.le_succ _) B6.out _ _ _⟩
  · rw [if_pos he] at hE
    have HE := Lib.hid hE
    clear hE
    have he2 : ((e0 : Int) == 0) = false := by simp; omega
    have he3 : ((e0 : Int) != 0) = true := by simp; omega
    have HQ := Lib.hid he
    clear he hn3 hm3
    go_wp2_with fail
    exact bodyPost_ret (ret3 rfl _ _ (w.heap.size + 1) _ rfl (HV3.out.put _ _ _).heap) rfl ⟨by rw [HE.out]; rfl, put_below (Nat.le_succ _) B3.out _ _ _⟩

theorem unbits (u : Bool) (k : Int) (s : ByteArray) (w : World) (T : TA w) (hm : s.size ≤ 100000) (r : Cl.C × Nat × Nat) (hr : Cl.unb u k (bl s) = r) : Calls Tryz.prog 54 #[tv u k, .string s] w fun e w' => UbPost w r e w' := by
  cases hk : Cl.may k with
  | false => rw [← hr]; exact unbNo u k s w hk
  | true =>
    obtain ⟨k0, k5⟩ := Cl.may_le hk
    cases u with
    | false =>
      have h : Cl.unb false k (bl s) = Cl.more false (Cl.bare k (bl s)) := by unfold Cl.unb; rw [if_neg (by rw [hk]; simp)]; rfl
      rw [← hr, h]
      rcases (show k = 1 ∨ k = 2 ∨ k = 3 ∨ k = 4 ∨ k = 5 by omega) with rfl | rfl | rfl | rfl | rfl
      · exact unb1F s s w T hm (cut_all s)
      · exact unb2F s s w T hm (cut_all s)
      · exact unb3F s s w T hm (cut_all s)
      · exact unb4F s s w T hm (cut_all s)
      · exact unb5F s s w T hm (cut_all s)
    | true =>
      unfold Cl.unb at hr
      rw [if_neg (by rw [hk]; simp), if_pos rfl] at hr
      by_cases h0 : bl s = []
      · rw [if_pos h0] at hr
        exact unbEnd k s w hk 0 3 (by unfold ty; rw [if_pos h0]) r (by rw [← hr]; rfl)
      · rw [if_neg h0] at hr
        by_cases h1 : (bl s).getD 0 0 = 0
        · rw [if_pos h1] at hr
          exact unbEnd k s w hk 1 0 (by unfold ty; rw [if_neg h0, if_neg (by omega), if_pos h1]) r (by rw [← hr]; rfl)
        · rw [if_neg h1] at hr
          by_cases h2 : (bl s).getD 0 0 = 1
          · rw [if_pos h2] at hr
            have hy : ty (bl s) = (true, 1, 0) := by unfold ty; rw [if_neg h0, if_pos h2]
            have hs : 1 ≤ s.size := by
              rcases Nat.eq_zero_or_pos s.size with h | h
              · exact absurd (bl_nil.2 h) h0
              · exact h
            have hm2 : (s.extract 1 s.size).size ≤ 100000 := by rw [ByteArray.size_extract]; omega
            rw [← bl_from s 1] at hr
            rw [← hr]
            rcases (show k = 1 ∨ k = 2 ∨ k = 3 ∨ k = 4 ∨ k = 5 by omega) with rfl | rfl | rfl | rfl | rfl
            · exact unb1T s _ w T hm2 hs hy (cut_one s hs)
            · exact unb2T s _ w T hm2 hs hy (cut_one s hs)
            · exact unb3T s _ w T hm2 hs hy (cut_one s hs)
            · exact unb4T s _ w T hm2 hs hy (cut_one s hs)
            · exact unb5T s _ w T hm2 hs hy (cut_one s hs)
          · rw [if_neg h2] at hr
            exact unbEnd k s w hk 0 4 (by unfold ty; rw [if_neg h0, if_neg h2, if_neg h1]) r (by rw [← hr]; rfl)

end Go.Proofs.YtfplogjdcndohaaGreatDoor
