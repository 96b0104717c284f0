/- Unbits of the program. -/
import Derived.Test.YtfplogjdcndohaaGreatDoorClReadH
namespace Go.Proofs.YtfplogjdcndohaaGreatDoor
open Go.RowKit
set_option linter.unusedVariables false
set_option maxRecDepth 100000

/-- What a cell of memory holds. -/
def gc (w : World) (a : Addr) : Value := (w.cell? a).getD undef
/-- Since W: nothing that was there has changed; a variable of a kind holds its functions still; a variable of a cell may be written. -/
def VU (W : World) (g k : Nat) (F : List Value) (w : World) : Prop :=
  Below W.heap.size W w ∧ Blk w g 83 F ∧ W.heap.size ≤ k ∧ g ≠ k ∧ ∃ cs : Array Value, w.heap[k]? = some (.cells cs 34 (0, 0)) ∧ cs.size = 3
theorem row_later {w w' : World} {k : Nat} {o : Obj} (hb : Below w.heap.size w w') (h : w.heap[k]? = some o) : w'.heap[k]? = some o := by
  have hlt : k < w.heap.size := by
    rcases Nat.lt_or_ge k w.heap.size with h' | h'
    · exact h'
    · rw [Array.getElem?_eq_none h'] at h; cases h
  rw [hb.block k hlt]; exact h
theorem VU.later {W w w' : World} {g k : Nat} {F : List Value} (h : VU W g k F w) (hb : Below w.heap.size w w') : VU W g k F w' := by
  obtain ⟨h1, h2, h3, h4, cs, h5, h6⟩ := h
  exact ⟨up h1 hb, h2.later hb, h3, h4, cs, row_later hb h5, h6⟩
theorem VU.set {W w : World} {g k : Nat} {F : List Value} (h : VU W g k F w) (j : Nat) (v : Value) : VU W g k F (w.setCell ⟨k, j, none⟩ v) := by
  obtain ⟨h1, h2, h3, h4, cs, h5, h6⟩ := h
  refine ⟨h1.setCell (by simpa using h3) _, ?_, h3, h4, cs.setIfInBounds j v, heap_setCell_same _ _ _ _ _ _ h5, by simpa using h6⟩
  unfold Blk
  rw [heap_setCell_other _ _ _ _ (by simpa using h4)]; exact h2
theorem VU.keep {W w : World} {g k : Nat} {F : List Value} (h : VU W g k F w) :
    VU W g k F w ∧ w.cell? ⟨g, 4, none⟩ = F[4]? ∧ (w.cell? ⟨k, 0, none⟩ = some (gc w ⟨k, 0, none⟩) ∧ w.cell? ⟨k, 1, none⟩ = some (gc w ⟨k, 1, none⟩) ∧ w.cell? ⟨k, 2, none⟩ = some (gc w ⟨k, 2, none⟩)) ∧
      w.frozen? ⟨k, 0, none⟩ = false ∧ w.frozen? ⟨k, 1, none⟩ = false ∧ w.frozen? ⟨k, 2, none⟩ = false := by
  obtain ⟨h1, h2, h3, h4, cs, h5, h6⟩ := id h
  have q : ∀ j, j < 3 → w.cell? ⟨k, j, none⟩ = some (gc w ⟨k, j, none⟩) := fun j hj => by
    have e := cell_of_row _ _ j _ _ _ h5
    rw [Array.getElem?_eq_getElem (by omega)] at e
    unfold gc; rw [e]; rfl
  exact ⟨h, h2.cell 4, ⟨q 0 (by omega), q 1 (by omega), q 2 (by omega)⟩, frozen_of_row _ _ _ _ _ h5, frozen_of_row _ _ _ _ _ h5, frozen_of_row _ _ _ _ _ h5⟩
theorem VU.three {W w : World} {g k : Nat} {F : List Value} (h : VU W g k F w) (a : Bool) (n : Int) (s : ByteArray) :
    CV (((w.setCell ⟨k, 0, none⟩ (.bool a)).setCell ⟨k, 1, none⟩ (.int .i64 n)).setCell ⟨k, 2, none⟩ (.string s)) k ⟨a, n, s⟩ ∧ VU W g k F (((w.setCell ⟨k, 0, none⟩ (.bool a)).setCell ⟨k, 1, none⟩ (.int .i64 n)).setCell ⟨k, 2, none⟩ (.string s)) := by
  refine ⟨?_, ((h.set 0 _).set 1 _).set 2 _⟩
  obtain ⟨h1, h2, h3, h4, cs, h5, h6⟩ := h
  unfold CV Blk
  rw [heap_setCell_same _ _ _ _ _ _ (heap_setCell_same _ _ _ _ _ _ (heap_setCell_same _ _ _ _ _ _ h5))]
  obtain ⟨l⟩ := cs
  match l, h6 with
  | [a, b, c], _ => rfl
attribute [irreducible] gc
/-- What Unbits answers. -/
def UbPost (w : World) (r : Cl.C × Nat × Nat) (e : Ending) (w' : World) : Prop := e = .returned (.tuple #[cv r.1, .int .i64 (r.2.1 : Nat), .int .i64 (r.2.2 : Nat)]) ∧ Below w.heap.size w w'
/-- What of a cell taken off becomes. -/
theorem unb_more (u : Bool) (k : Int) (l : List Nat) (c : Cl.C) (n e : Nat) (h : Tk k l c n e) : Cl.more u (Cl.bare k l) = if e ≠ 0 then (Cl.empty, 0, e) else if Cl.isK k c = true then (c, (if u = true then 1 else 0) + n, 0) else (Cl.empty, 0, 4) := by
  rw [h.2.2.2]
  unfold Cl.more
  by_cases he : e ≠ 0
  · rw [if_pos he]; simp only []; rw [if_pos he, if_pos he]
  · rw [if_neg he, if_neg he]
    by_cases hc : Cl.isK k c = true
    · rw [if_pos hc, if_pos hc]; simp
    · rw [if_neg hc, if_neg hc]; simp
theorem cut_all (s : ByteArray) (w : World) : (Instr.slice 9 (.string s) (some (.int .i64 0)) none none).run Tryz.prog w = .ok (.string s) w := by
  rw [run_slice_string_from_if w 9 s .i64 _ Tryz.underlying9, if_pos (by omega)]
  congr 2
  apply bl_inj
  rw [show (0 : Int).toNat = 0 from rfl, bl_from]; rfl
theorem cut_one (s : ByteArray) (h : 1 ≤ s.size) (w : World) : (Instr.slice 9 (.string s) (some (.int .i64 1)) none none).run Tryz.prog w = .ok (.string (s.extract 1 s.size)) w := by
  rw [run_slice_string_from_if w 9 s .i64 _ Tryz.underlying9, if_pos (by omega)]
  rfl
theorem unbNo (u : Bool) (k : Int) (s : ByteArray) (w : World) (hk : Cl.may k = false) : Calls Tryz.prog 54 #[tv u k, .string s] w fun e w' => UbPost w (Cl.unb u k (bl s)) e w' := by
  have HM := Lib.hid (fun w => cMay u k w false hk)
  have B0 := Lib.hid (BX.start w u k Cl.empty)
  have HR := Lib.hid (show Cl.unb u k (bl s) = (Cl.empty, 0, 2) by unfold Cl.unb; rw [if_pos hk])
  rw [HR.out]
  clear hk
  unfold Cl.empty at B0
  unfold tv at HM ⊢
  simp only at B0
  go_enter Tryz.func54, Tryz.ntmps54
  go_wp2_with fail
  ((with_reducible refine (HM.out _).mono ?_); rintro e w1 ⟨rfl, b1⟩)
  have BB := Lib.hid (B0.out.later b1)
  obtain ⟨c0, c1, c2⟩ := BB.out.clie
  obtain ⟨f0, f1, f2⟩ := BB.out.free
  simp only at c0 c1 c2
  clear b1
  go_wp2_with fail
  exact bodyPost_ret (ret3 rfl _ _ (w.heap.size + 1) _ rfl (BB.out.put _ _ _).1) rfl ⟨rfl, (BB.out.put _ _ _).2⟩
/-- A first byte that ends it. -/
theorem unbEnd (k : Int) (s : ByteArray) (w : World) (hk : Cl.may k = true) (n0 e0 : Nat) (hy : ty (bl s) = (false, n0, e0)) (r : Cl.C × Nat × Nat) (hr : (if e0 ≠ 0 then (Cl.empty, 0, e0) else (Cl.nothing, n0, 0)) = r) : Calls Tryz.prog 54 #[tv true k, .string s] w fun e w' => UbPost w r e w' := by
  have HM := Lib.hid (fun w => cMay true k w true hk)
  have B0 := Lib.hid (BX.start w true k Cl.empty)
  have HY := Lib.hid (fun w => cTakeYes s w false n0 e0 hy)
  clear hk hy
  unfold Cl.empty at B0
  unfold tv at HM ⊢
  simp only at B0
  by_cases he : e0 = 0
  · subst he
    obtain rfl : (Cl.nothing, n0, 0) = r := by simpa using hr
    clear hr
    go_enter Tryz.func54, Tryz.ntmps54
    go_wp2_with fail
    ((with_reducible refine (HM.out _).mono ?_); rintro e w1 ⟨rfl, b1⟩)
    have BB := Lib.hid (B0.out.later b1)
    obtain ⟨c0, c1, c2⟩ := BB.out.clie
    obtain ⟨f0, f1, f2⟩ := BB.out.free
    obtain ⟨t0, t1⟩ := BB.out.tlie
    simp only at c0 c1 c2
    clear b1
    go_wp2_with fail
    ((with_reducible refine (HY.out _).mono ?_); rintro e w2 ⟨rfl, rfl⟩)
    go_wp2_with fail
    exact bodyPost_ret (ret3 rfl _ _ (w.heap.size + 1) _ rfl (BB.out.put _ _ _).1) rfl ⟨rfl, (BB.out.put _ _ _).2⟩
  · obtain rfl : (Cl.empty, 0, e0) = r := by rw [if_pos he] at hr; exact hr
    have he2 : ((e0 : Int) != 0) = true := by simp; omega
    have HE := Lib.hid he
    clear hr he
    go_enter Tryz.func54, Tryz.ntmps54
    go_wp2_with fail
    ((with_reducible refine (HM.out _).mono ?_); rintro e w1 ⟨rfl, b1⟩)
    have BB := Lib.hid (B0.out.later b1)
    obtain ⟨c0, c1, c2⟩ := BB.out.clie
    obtain ⟨f0, f1, f2⟩ := BB.out.free
    obtain ⟨t0, t1⟩ := BB.out.tlie
    simp only at c0 c1 c2
    clear b1
    go_wp2_with fail
    ((with_reducible refine (HY.out _).mono ?_); rintro e w2 ⟨rfl, rfl⟩)
    go_wp2_with fail
    exact bodyPost_ret (ret3 rfl _ _ (w.heap.size + 1) _ rfl (BB.out.put _ _ _).1) rfl ⟨rfl, (BB.out.put _ _ _).2⟩

set_option maxHeartbeats 8000000 in
theorem unb1F (s s2 : ByteArray) (w : World) (T : TA w) (hm : s2.size ≤ 100000) (hcut : ∀ w, (Instr.slice 9 (.string s) (some (.int .i64 0)) none none).run Tryz.prog w = .ok (.string s2) w) : Calls Tryz.prog 54 #[tv false 1, .string s] w fun e w' => UbPost w (Cl.more false (Cl.bare 1 (bl s2))) e w' := by
  have HM := Lib.hid (fun w => cMay false 1 w true (by decide))
  have B0 := Lib.hid (BX.start w false 1 Cl.empty)
  have TW := Lib.hid (fun w1 (hb : Below w.heap.size w w1) => T.later hb)
  have CK := Lib.hid (fun w => kindOf1 false w)
  have CT := Lib.hid (fun w1 (hb : Below w.heap.size w w1) => (kf1.take s2 w1 (T.later hb) hm).mono (fun e w' h => (h : ∃ c n e0, e = _ ∧ Tk 1 (bl s2) c n e0 ∧ Below w1.heap.size w1 w')))
  clear T
  unfold tv kv1 at CK
  unfold Cl.empty at B0
  unfold tv at HM ⊢
  simp only at B0
  go_enter Tryz.func54, Tryz.ntmps54
  go_wp2_with fail
  ((with_reducible refine (HM.out _).mono ?_); rintro e w1 ⟨rfl, b1⟩)
  have BB := Lib.hid (B0.out.later b1)
  obtain ⟨t0, t1⟩ := BB.out.tlie
  clear b1
  go_wp2_with fail
  ((with_reducible refine (CK.out _).mono ?_); rintro e w2 ⟨rfl, b2⟩)
  have BC := Lib.hid (BB.out.later b2)
  obtain ⟨gk, hgk⟩ : ∃ n, w2.heap.size = n := ⟨_, rfl⟩
  have K3 := Blk.new w2 83 #[.func (Fn.func 69) #[] #[], .func (Fn.func 70) #[] #[], .func (Fn.func 71) #[] #[], .func (Fn.func 72) #[] #[], .func (Fn.func 73) #[] #[]]
  rw [hgk] at K3
  have b3 := box_new w2 (.cells #[.func (Fn.func 69) #[] #[], .func (Fn.func 70) #[] #[], .func (Fn.func 71) #[] #[], .func (Fn.func 72) #[] #[], .func (Fn.func 73) #[] #[]] 83)
  have B3 := BC.out.later b3
  have hne : gk ≠ w.heap.size + 1 := by
    have := BC.out.c.lt
    omega
  have HV := Lib.hid (show VU w gk (w.heap.size + 1) [.func (Fn.func 69) #[] #[], .func (Fn.func 70) #[] #[], .func (Fn.func 71) #[] #[], .func (Fn.func 72) #[] #[], .func (Fn.func 73) #[] #[]] (w2.alloc (.cells #[.func (Fn.func 69) #[] #[], .func (Fn.func 70) #[] #[], .func (Fn.func 71) #[] #[], .func (Fn.func 72) #[] #[], .func (Fn.func 73) #[] #[]] 83)) from ⟨B3.b, K3, Nat.le_succ _, hne, _, B3.c.heap, rfl⟩)
  clear b2 BB t0 t1 b3 K3 B3 BC
  go_wp2_with fail
  generalize w2.alloc (.cells #[.func (Fn.func 69) #[] #[], .func (Fn.func 70) #[] #[], .func (Fn.func 71) #[] #[], .func (Fn.func 72) #[] #[], .func (Fn.func 73) #[] #[]] 83) = W0 at *
  have C2 := Lib.hid (fun w1 (hv : VU w gk (w.heap.size + 1) [.func (Fn.func 69) #[] #[], .func (Fn.func 70) #[] #[], .func (Fn.func 71) #[] #[], .func (Fn.func 72) #[] #[], .func (Fn.func 73) #[] #[]] w1) => (CT.out w1 hv.1).mono (fun e w' h => (h : ∃ c n e0, e = _ ∧ Tk 1 (bl s2) c n e0 ∧ Below w1.heap.size w1 w')))
  go_region_held3 (fun w' => VU w gk (w.heap.size + 1) [.func (Fn.func 69) #[] #[], .func (Fn.func 70) #[] #[], .func (Fn.func 71) #[] #[], .func (Fn.func 72) #[] #[], .func (Fn.func 73) #[] #[]] w' ∧ w'.cell? ⟨gk, 4, none⟩ = some (.func (Fn.func 73) #[] #[]) ∧ (w'.cell? ⟨w.heap.size + 1, 0, none⟩ = some (gc w' ⟨w.heap.size + 1, 0, none⟩) ∧ w'.cell? ⟨w.heap.size + 1, 1, none⟩ = some (gc w' ⟨w.heap.size + 1, 1, none⟩) ∧ w'.cell? ⟨w.heap.size + 1, 2, none⟩ = some (gc w' ⟨w.heap.size + 1, 2, none⟩)) ∧
      w'.frozen? ⟨w.heap.size + 1, 0, none⟩ = false ∧ w'.frozen? ⟨w.heap.size + 1, 1, none⟩ = false ∧ w'.frozen? ⟨w.heap.size + 1, 2, none⟩ = false)
    (first | exact VU.keep HV.out | exact VU.keep (VU.later HV.out ((Below.refl _ _).drew)) | exact VU.keep HC.out | exact VU.keep (VU.set (VU.set (VU.set HC.out _ _) _ _) _ _) | fail "keep")
    ((first
      | (go_at_call 73; (with_reducible refine (C2.out _ (VU.later HV.out ((Below.refl _ _).drew))).mono ?_); rintro e wC ⟨c, n, e0, rfl, hk, b⟩; have HC := Lib.hid (VU.later (VU.later HV.out ((Below.refl _ _).drew)) b); have HK := Lib.hid hk; clear b hk; obtain ⟨gu, gn, gs⟩ := c; unfold cv; simp only)))
  rename_i hH
  clear hH
  have hm3 := HK.out.2.1
  have hn3 := HK.out.2.2.1
  rw [bl_length] at hn3
  have hE := unb_more false 1 (bl s2) ⟨gu, gn, gs⟩ n e0 HK.out
  obtain ⟨V3, U3⟩ := VU.three HC.out gu gn gs
  clear C2 CT CK HM HC HV hcut
  generalize ((wC.setCell ⟨w.heap.size + 1, 0, none⟩ (.bool gu)).setCell ⟨w.heap.size + 1, 1, none⟩ (.int .i64 gn)).setCell ⟨w.heap.size + 1, 2, none⟩ (.string gs) = w3 at *
  have k0 := U3.2.1.cell 0
  simp only [List.getElem?_cons_zero] at k0
  obtain ⟨v0, v1, v2⟩ := V3.lie
  obtain ⟨f0, f1, f2⟩ := V3.free
  simp only at v0 v1 v2
  have HV3 := Lib.hid V3
  have B3 := Lib.hid U3.1
  clear V3 U3
  have hnw : (n : Int) ≤ 100000 := by omega
  by_cases he : e0 = 0
  · subst he
    rw [if_neg (by decide)] at hE
    obtain ⟨r, hr⟩ : ∃ r, Cl.isK 1 ⟨gu, gn, gs⟩ = r := ⟨_, rfl⟩
    have CI := Lib.hid (fun w1 (hb : Below w.heap.size w w1) => kf1.is ⟨gu, gn, gs⟩ w1 r (TW.out w1 hb) HK.out.1 (Nat.le_trans hm3 (by decide)) hr)
    unfold cv at CI
    simp only at CI
    rw [hr] at hE
    clear hr hn3 hm3
    cases r with
    | false =>
      rw [if_neg (by decide)] at hE
      have HE := Lib.hid hE
      clear hE
      go_wp2_with fail
      ((with_reducible refine (CI.out _ B3.out).mono ?_); rintro e w6 ⟨rfl, b6⟩)
      have V6 := HV3.out.later b6
      have B6 := Lib.hid (up B3.out b6)
      obtain ⟨c0, c1, c2⟩ := V6.lie
      obtain ⟨g0, g1, g2⟩ := V6.free
      simp only at c0 c1 c2
      have HV6 := Lib.hid V6
      clear b6 k0 v0 v1 v2 f0 f1 f2 V6
      go_wp2_with fail
      exact bodyPost_ret (ret3 rfl _ _ (w.heap.size + 1) _ rfl (HV6.out.put _ _ _).heap) rfl ⟨by rw [HE.out]; rfl, put_below (Nat.le_succ _) B6.out _ _ _⟩
    | true =>
      rw [if_pos rfl] at hE
      have HE := Lib.hid hE
      clear hE
      go_wp2_with fail
      ((with_reducible refine (CI.out _ B3.out).mono ?_); rintro e w6 ⟨rfl, b6⟩)
      have V6 := HV3.out.later b6
      have B6 := Lib.hid (up B3.out b6)
      obtain ⟨c0, c1, c2⟩ := V6.lie
      obtain ⟨g0, g1, g2⟩ := V6.free
      simp only at c0 c1 c2
      have HV6 := Lib.hid V6
      clear b6 k0 v0 v1 v2 f0 f1 f2 V6
      go_wp2_with fail
      exact bodyPost_ret (ret3 rfl _ _ (w.heap.size + 1) _ rfl (HV6.out.put _ _ _).heap) rfl ⟨by rw [HE.out]; simp, put_below (Nat.le_succ _) B6.out _ _ _⟩
  · rw [if_pos he] at hE
    have HE := Lib.hid hE
    clear hE
    have he2 : ((e0 : Int) == 0) = false := by simp; omega
    have he3 : ((e0 : Int) != 0) = true := by simp; omega
    have HQ := Lib.hid he
    clear he hn3 hm3
    go_wp2_with fail
    exact bodyPost_ret (ret3 rfl _ _ (w.heap.size + 1) _ rfl (HV3.out.put _ _ _).heap) rfl ⟨by rw [HE.out]; rfl, put_below (Nat.le_succ _) B3.out _ _ _⟩

set_option maxHeartbeats 8000000 in
theorem unb1T (s s2 : ByteArray) (w : World) (T : TA w) (hm : s2.size ≤ 100000) (h1 : 1 ≤ s.size) (hy : ty (bl s) = (true, 1, 0)) (hcut : ∀ w, (Instr.slice 9 (.string s) (some (.int .i64 1)) none none).run Tryz.prog w = .ok (.string s2) w) : Calls Tryz.prog 54 #[tv true 1, .string s] w fun e w' => UbPost w (Cl.more true (Cl.bare 1 (bl s2))) e w' := by
  have HM := Lib.hid (fun w => cMay true 1 w true (by decide))
  have B0 := Lib.hid (BX.start w true 1 Cl.empty)
  have TW := Lib.hid (fun w1 (hb : Below w.heap.size w w1) => T.later hb)
  have CK := Lib.hid (fun w => kindOf1 true w)
  have CT := Lib.hid (fun w1 (hb : Below w.heap.size w w1) => (kf1.take s2 w1 (T.later hb) hm).mono (fun e w' h => (h : ∃ c n e0, e = _ ∧ Tk 1 (bl s2) c n e0 ∧ Below w1.heap.size w1 w')))
  have HY := Lib.hid (fun w => cTakeYes s w true 1 0 hy)
  have H1 := Lib.hid h1
  clear hy h1
  clear T
  unfold tv kv1 at CK
  unfold Cl.empty at B0
  unfold tv at HM ⊢
  simp only at B0
  go_enter Tryz.func54, Tryz.ntmps54
  go_wp2_with fail
  ((with_reducible refine (HM.out _).mono ?_); rintro e w1 ⟨rfl, b1⟩)
  have BB := Lib.hid (B0.out.later b1)
  obtain ⟨t0, t1⟩ := BB.out.tlie
  clear b1
  go_wp2_with fail
  ((with_reducible refine (HY.out _).mono ?_); rintro e w9 ⟨rfl, rfl⟩)
  go_wp2_with fail
  ((with_reducible refine (CK.out _).mono ?_); rintro e w2 ⟨rfl, b2⟩)
  have BC := Lib.hid (BB.out.later b2)
  obtain ⟨gk, hgk⟩ : ∃ n, w2.heap.size = n := ⟨_, rfl⟩
  have K3 := Blk.new w2 83 #[.func (Fn.func 69) #[] #[], .func (Fn.func 70) #[] #[], .func (Fn.func 71) #[] #[], .func (Fn.func 72) #[] #[], .func (Fn.func 73) #[] #[]]
  rw [hgk] at K3
  have b3 := box_new w2 (.cells #[.func (Fn.func 69) #[] #[], .func (Fn.func 70) #[] #[], .func (Fn.func 71) #[] #[], .func (Fn.func 72) #[] #[], .func (Fn.func 73) #[] #[]] 83)
  have B3 := BC.out.later b3
  have hne : gk ≠ w.heap.size + 1 := by
    have := BC.out.c.lt
    omega
  have HV := Lib.hid (show VU w gk (w.heap.size + 1) [.func (Fn.func 69) #[] #[], .func (Fn.func 70) #[] #[], .func (Fn.func 71) #[] #[], .func (Fn.func 72) #[] #[], .func (Fn.func 73) #[] #[]] (w2.alloc (.cells #[.func (Fn.func 69) #[] #[], .func (Fn.func 70) #[] #[], .func (Fn.func 71) #[] #[], .func (Fn.func 72) #[] #[], .func (Fn.func 73) #[] #[]] 83)) from ⟨B3.b, K3, Nat.le_succ _, hne, _, B3.c.heap, rfl⟩)
  clear b2 BB t0 t1 b3 K3 B3 BC
  go_wp2_with fail
  generalize w2.alloc (.cells #[.func (Fn.func 69) #[] #[], .func (Fn.func 70) #[] #[], .func (Fn.func 71) #[] #[], .func (Fn.func 72) #[] #[], .func (Fn.func 73) #[] #[]] 83) = W0 at *
  have C2 := Lib.hid (fun w1 (hv : VU w gk (w.heap.size + 1) [.func (Fn.func 69) #[] #[], .func (Fn.func 70) #[] #[], .func (Fn.func 71) #[] #[], .func (Fn.func 72) #[] #[], .func (Fn.func 73) #[] #[]] w1) => (CT.out w1 hv.1).mono (fun e w' h => (h : ∃ c n e0, e = _ ∧ Tk 1 (bl s2) c n e0 ∧ Below w1.heap.size w1 w')))
  go_region_held3 (fun w' => VU w gk (w.heap.size + 1) [.func (Fn.func 69) #[] #[], .func (Fn.func 70) #[] #[], .func (Fn.func 71) #[] #[], .func (Fn.func 72) #[] #[], .func (Fn.func 73) #[] #[]] w' ∧ w'.cell? ⟨gk, 4, none⟩ = some (.func (Fn.func 73) #[] #[]) ∧ (w'.cell? ⟨w.heap.size + 1, 0, none⟩ = some (gc w' ⟨w.heap.size + 1, 0, none⟩) ∧ w'.cell? ⟨w.heap.size + 1, 1, none⟩ = some (gc w' ⟨w.heap.size + 1, 1, none⟩) ∧ w'.cell? ⟨w.heap.size + 1, 2, none⟩ = some (gc w' ⟨w.heap.size + 1, 2, none⟩)) ∧
      w'.frozen? ⟨w.heap.size + 1, 0, none⟩ = false ∧ w'.frozen? ⟨w.heap.size + 1, 1, none⟩ = false ∧ w'.frozen? ⟨w.heap.size + 1, 2, none⟩ = false)
    (first | exact VU.keep HV.out | exact VU.keep (VU.later HV.out ((Below.refl _ _).drew)) | exact VU.keep HC.out | exact VU.keep (VU.set (VU.set (VU.set HC.out _ _) _ _) _ _) | fail "keep")
    ((first
      | (go_at_call 73; (with_reducible refine (C2.out _ (VU.later HV.out ((Below.refl _ _).drew))).mono ?_); rintro e wC ⟨c, n, e0, rfl, hk, b⟩; have HC := Lib.hid (VU.later (VU.later HV.out ((Below.refl _ _).drew)) b); have HK := Lib.hid hk; clear b hk; obtain ⟨gu, gn, gs⟩ := c; unfold cv; simp only)))
  rename_i hH
  clear hH
  have hm3 := HK.out.2.1
  have hn3 := HK.out.2.2.1
  rw [bl_length] at hn3
  have hE := unb_more true 1 (bl s2) ⟨gu, gn, gs⟩ n e0 HK.out
  obtain ⟨V3, U3⟩ := VU.three HC.out gu gn gs
  clear C2 CT CK HM HC HV hcut
  generalize ((wC.setCell ⟨w.heap.size + 1, 0, none⟩ (.bool gu)).setCell ⟨w.heap.size + 1, 1, none⟩ (.int .i64 gn)).setCell ⟨w.heap.size + 1, 2, none⟩ (.string gs) = w3 at *
  have k0 := U3.2.1.cell 0
  simp only [List.getElem?_cons_zero] at k0
  obtain ⟨v0, v1, v2⟩ := V3.lie
  obtain ⟨f0, f1, f2⟩ := V3.free
  simp only at v0 v1 v2
  have HV3 := Lib.hid V3
  have B3 := Lib.hid U3.1
  clear V3 U3
  have hnw : (n : Int) ≤ 100000 := by omega
  by_cases he : e0 = 0
  · subst he
    rw [if_neg (by decide)] at hE
    obtain ⟨r, hr⟩ : ∃ r, Cl.isK 1 ⟨gu, gn, gs⟩ = r := ⟨_, rfl⟩
    have CI := Lib.hid (fun w1 (hb : Below w.heap.size w w1) => kf1.is ⟨gu, gn, gs⟩ w1 r (TW.out w1 hb) HK.out.1 (Nat.le_trans hm3 (by decide)) hr)
    unfold cv at CI
    simp only at CI
    rw [hr] at hE
    clear hr hn3 hm3
    cases r with
    | false =>
      rw [if_neg (by decide)] at hE
      have HE := Lib.hid hE
      clear hE
      go_wp2_with fail
      ((with_reducible refine (CI.out _ B3.out).mono ?_); rintro e w6 ⟨rfl, b6⟩)
      have V6 := HV3.out.later b6
      have B6 := Lib.hid (up B3.out b6)
      obtain ⟨c0, c1, c2⟩ := V6.lie
      obtain ⟨g0, g1, g2⟩ := V6.free
      simp only at c0 c1 c2
      have HV6 := Lib.hid V6
      clear b6 k0 v0 v1 v2 f0 f1 f2 V6
      go_wp2_with fail
      exact bodyPost_ret (ret3 rfl _ _ (w.heap.size + 1) _ rfl (HV6.out.put _ _ _).heap) rfl ⟨by rw [HE.out]; rfl, put_below (Nat.le_succ _) B6.out _ _ _⟩
    | true =>
      rw [if_pos rfl] at hE
      have HE := Lib.hid hE
      clear hE
      go_wp2_with fail
      ((with_reducible refine (CI.out _ B3.out).mono ?_); rintro e w6 ⟨rfl, b6⟩)
      have V6 := HV3.out.later b6
      have B6 := Lib.hid (up B3.out b6)
      obtain ⟨c0, c1, c2⟩ := V6.lie
      obtain ⟨g0, g1, g2⟩ := V6.free
      simp only at c0 c1 c2
      have HV6 := Lib.hid V6
      clear b6 k0 v0 v1 v2 f0 f1 f2 V6
      go_wp2_with fail
      exact bodyPost_ret (ret3 rfl _ _ (w.heap.size + 1) _ rfl (HV6.out.put _ _ _).heap) rfl ⟨by rw [HE.out]; simp, put_below (Nat.le_succ _) B6.out _ _ _⟩
  · rw [if_pos he] at hE
    have HE := Lib.hid hE
    clear hE
    have he2 : ((e0 : Int) == 0) = false := by simp; omega
    have he3 : ((e0 : Int) != 0) = true := by simp; omega
    have HQ := Lib.hid he
    clear he hn3 hm3
    go_wp2_with fail
    exact bodyPost_ret (ret3 rfl _ _ (w.heap.size + 1) _ rfl (HV3.out.put _ _ _).heap) rfl ⟨by rw [HE.out]; rfl, put_below (Nat.le_succ _) B3.out _ _ _⟩

set_option maxHeartbeats 8000000 in
theorem unb2F (s s2 : ByteArray) (w : World) (T : TA w) (hm : s2.size ≤ 100000) (hcut : ∀ w, (Instr.slice 9 (.string s) (some (.int .i64 0)) none none).run Tryz.prog w = .ok (.string s2) w) : Calls Tryz.prog 54 #[tv false 2, .string s] w fun e w' => UbPost w (Cl.more false (Cl.bare 2 (bl s2))) e w' := by
  have HM := Lib.hid (fun w => cMay false 2 w true (by decide))
  have B0 := Lib.hid (BX.start w false 2 Cl.empty)
  have TW := Lib.hid (fun w1 (hb : Below w.heap.size w w1) => T.later hb)
  have CK := Lib.hid (fun w => kindOf2 false w)
  have CT := Lib.hid (fun w1 (hb : Below w.heap.size w w1) => (kf2.take s2 w1 (T.later hb) hm).mono (fun e w' h => (h : ∃ c n e0, e = _ ∧ Tk 2 (bl s2) c n e0 ∧ Below w1.heap.size w1 w')))
  clear T
  unfold tv kv2 at CK
  unfold Cl.empty at B0
  unfold tv at HM ⊢
  simp only at B0
  go_enter Tryz.func54, Tryz.ntmps54
  go_wp2_with fail
  ((with_reducible refine (HM.out _).mono ?_); rintro e w1 ⟨rfl, b1⟩)
  have BB := Lib.hid (B0.out.later b1)
  obtain ⟨t0, t1⟩ := BB.out.tlie
  clear b1
  go_wp2_with fail
  ((with_reducible refine (CK.out _).mono ?_); rintro e w2 ⟨rfl, b2⟩)
  have BC := Lib.hid (BB.out.later b2)
  obtain ⟨gk, hgk⟩ : ∃ n, w2.heap.size = n := ⟨_, rfl⟩
  have K3 := Blk.new w2 83 #[.func (Fn.func 74) #[] #[], .func (Fn.func 75) #[] #[], .func (Fn.func 76) #[] #[], .func (Fn.func 77) #[] #[], .func (Fn.func 78) #[] #[]]
  rw [hgk] at K3
  have b3 := box_new w2 (.cells #[.func (Fn.func 74) #[] #[], .func (Fn.func 75) #[] #[], .func (Fn.func 76) #[] #[], .func (Fn.func 77) #[] #[], .func (Fn.func 78) #[] #[]] 83)
  have B3 := BC.out.later b3
  have hne : gk ≠ w.heap.size + 1 := by
    have := BC.out.c.lt
    omega
  have HV := Lib.hid (show VU w gk (w.heap.size + 1) [.func (Fn.func 74) #[] #[], .func (Fn.func 75) #[] #[], .func (Fn.func 76) #[] #[], .func (Fn.func 77) #[] #[], .func (Fn.func 78) #[] #[]] (w2.alloc (.cells #[.func (Fn.func 74) #[] #[], .func (Fn.func 75) #[] #[], .func (Fn.func 76) #[] #[], .func (Fn.func 77) #[] #[], .func (Fn.func 78) #[] #[]] 83)) from ⟨B3.b, K3, Nat.le_succ _, hne, _, B3.c.heap, rfl⟩)
  clear b2 BB t0 t1 b3 K3 B3 BC
  go_wp2_with fail
  generalize w2.alloc (.cells #[.func (Fn.func 74) #[] #[], .func (Fn.func 75) #[] #[], .func (Fn.func 76) #[] #[], .func (Fn.func 77) #[] #[], .func (Fn.func 78) #[] #[]] 83) = W0 at *
  have C2 := Lib.hid (fun w1 (hv : VU w gk (w.heap.size + 1) [.func (Fn.func 74) #[] #[], .func (Fn.func 75) #[] #[], .func (Fn.func 76) #[] #[], .func (Fn.func 77) #[] #[], .func (Fn.func 78) #[] #[]] w1) => (CT.out w1 hv.1).mono (fun e w' h => (h : ∃ c n e0, e = _ ∧ Tk 2 (bl s2) c n e0 ∧ Below w1.heap.size w1 w')))
  go_region_held3 (fun w' => VU w gk (w.heap.size + 1) [.func (Fn.func 74) #[] #[], .func (Fn.func 75) #[] #[], .func (Fn.func 76) #[] #[], .func (Fn.func 77) #[] #[], .func (Fn.func 78) #[] #[]] w' ∧ w'.cell? ⟨gk, 4, none⟩ = some (.func (Fn.func 78) #[] #[]) ∧ (w'.cell? ⟨w.heap.size + 1, 0, none⟩ = some (gc w' ⟨w.heap.size + 1, 0, none⟩) ∧ w'.cell? ⟨w.heap.size + 1, 1, none⟩ = some (gc w' ⟨w.heap.size + 1, 1, none⟩) ∧ w'.cell? ⟨w.heap.size + 1, 2, none⟩ = some (gc w' ⟨w.heap.size + 1, 2, none⟩)) ∧
      w'.frozen? ⟨w.heap.size + 1, 0, none⟩ = false ∧ w'.frozen? ⟨w.heap.size + 1, 1, none⟩ = false ∧ w'.frozen? ⟨w.heap.size + 1, 2, none⟩ = false)
    (first | exact VU.keep HV.out | exact VU.keep (VU.later HV.out ((Below.refl _ _).drew)) | exact VU.keep HC.out | exact VU.keep (VU.set (VU.set (VU.set HC.out _ _) _ _) _ _) | fail "keep")
    ((first
      | (go_at_call 78; (with_reducible refine (C2.out _ (VU.later HV.out ((Below.refl _ _).drew))).mono ?_); rintro e wC ⟨c, n, e0, rfl, hk, b⟩; have HC := Lib.hid (VU.later (VU.later HV.out ((Below.refl _ _).drew)) b); have HK := Lib.hid hk; clear b hk; obtain ⟨gu, gn, gs⟩ := c; unfold cv; simp only)))
  rename_i hH
  clear hH
  have hm3 := HK.out.2.1
  have hn3 := HK.out.2.2.1
  rw [bl_length] at hn3
  have hE := unb_more false 2 (bl s2) ⟨gu, gn, gs⟩ n e0 HK.out
  obtain ⟨V3, U3⟩ := VU.three HC.out gu gn gs
  clear C2 CT CK HM HC HV hcut
  generalize ((wC.setCell ⟨w.heap.size + 1, 0, none⟩ (.bool gu)).setCell ⟨w.heap.size + 1, 1, none⟩ (.int .i64 gn)).setCell ⟨w.heap.size + 1, 2, none⟩ (.string gs) = w3 at *
  have k0 := U3.2.1.cell 0
  simp only [List.getElem?_cons_zero] at k0
  obtain ⟨v0, v1, v2⟩ := V3.lie
  obtain ⟨f0, f1, f2⟩ := V3.free
  simp only at v0 v1 v2
  have HV3 := Lib.hid V3
  have B3 := Lib.hid U3.1
  clear V3 U3
  have hnw : (n : Int) ≤ 100000 := by omega
  by_cases he : e0 = 0
  · subst he
    rw [if_neg (by decide)] at hE
    obtain ⟨r, hr⟩ : ∃ r, Cl.isK 2 ⟨gu, gn, gs⟩ = r := ⟨_, rfl⟩
    have CI := Lib.hid (fun w1 (hb : Below w.heap.size w w1) => kf2.is ⟨gu, gn, gs⟩ w1 r (TW.out w1 hb) HK.out.1 (Nat.le_trans hm3 (by decide)) hr)
    unfold cv at CI
    simp only at CI
    rw [hr] at hE
    clear hr hn3 hm3
    cases r with
    | false =>
      rw [if_neg (by decide)] at hE
      have HE := Lib.hid hE
      clear hE
      go_wp2_with fail
      ((with_reducible refine (CI.out _ B3.out).mono ?_); rintro e w6 ⟨rfl, b6⟩)
      have V6 := HV3.out.later b6
      have B6 := Lib.hid (up B3.out b6)
      obtain ⟨c0, c1, c2⟩ := V6.lie
      obtain ⟨g0, g1, g2⟩ := V6.free
      simp only at c0 c1 c2
      have HV6 := Lib.hid V6
      clear b6 k0 v0 v1 v2 f0 f1 f2 V6
      go_wp2_with fail
      exact bodyPost_ret (ret3 rfl _ _ (w.heap.size + 1) _ rfl (HV6.out.put _ _ _).heap) rfl ⟨by rw [HE.out]; rfl, put_below (Nat.le_succ _) B6.out _ _ _⟩
    | true =>
      rw [if_pos rfl] at hE
      have HE := Lib.hid hE
      clear hE
      go_wp2_with fail
      ((with_reducible refine (CI.out _ B3.out).mono ?_); rintro e w6 ⟨rfl, b6⟩)
      have V6 := HV3.out.later b6
      have B6 := Lib.hid (up B3.out b6)
      obtain ⟨c0, c1, c2⟩ := V6.lie
      obtain ⟨g0, g1, g2⟩ := V6.free
      simp only at c0 c1 c2
      have HV6 := Lib.hid V6
      clear b6 k0 v0 v1 v2 f0 f1 f2 V6
      go_wp2_with fail
      exact bodyPost_ret (ret3 rfl _ _ (w.heap.size + 1) _ rfl (HV6.out.put _ _ _).heap) rfl ⟨by rw [HE.out]; simp, put_below (Nat.le_succ _) B6.out _ _ _⟩
  · rw [if_pos he] at hE
    have HE := Lib.hid hE
    clear hE
    have he2 : ((e0 : Int) == 0) = false := by simp; omega
    have he3 : ((e0 : Int) != 0) = true := by simp; omega
    have HQ := Lib.hid he
    clear he hn3 hm3
    go_wp2_with fail
    exact bodyPost_ret (ret3 rfl _ _ (w.heap.size + 1) _ rfl (HV3.out.put _ _ _).heap) rfl ⟨by rw [HE.out]; rfl, put_below (Nat.le_succ _) B3.out _ _ _⟩

set_option maxHeartbeats 8000000 in
theorem unb2T (s s2 : ByteArray) (w : World) (T : TA w) (hm : s2.size ≤ 100000) (h1 : 1 ≤ s.size) (hy : ty (bl s) = (true, 1, 0)) (hcut : ∀ w, (Instr.slice 9 (.string s) (some (.int .i64 1)) none none).run Tryz.prog w = .ok (.string s2) w) : Calls Tryz.prog 54 #[tv true 2, .string s] w fun e w' => UbPost w (Cl.more true (Cl.bare 2 (bl s2))) e w' := by
  have HM := Lib.hid (fun w => cMay true 2 w true (by decide))
  have B0 := Lib.hid (BX.start w true 2 Cl.empty)
  have TW := Lib.hid (fun w1 (hb : Below w.heap.size w w1) => T.later hb)
  have CK := Lib.hid (fun w => kindOf2 true w)
  have CT := Lib.hid (fun w1 (hb : Below w.heap.size w w1) => (kf2.take s2 w1 (T.later hb) hm).mono (fun e w' h => (h : ∃ c n e0, e = _ ∧ Tk 2 (bl s2) c n e0 ∧ Below w1.heap.size w1 w')))
  have HY := Lib.hid (fun w => cTakeYes s w true 1 0 hy)
  have H1 := Lib.hid h1
  clear hy h1
  clear T
  unfold tv kv2 at CK
  unfold Cl.empty at B0
  unfold tv at HM ⊢
  simp only at B0
  go_enter Tryz.func54, Tryz.ntmps54
  go_wp2_with fail
  ((with_reducible refine (HM.out _).mono ?_); rintro e w1 ⟨rfl, b1⟩)
  have BB := Lib.hid (B0.out.later b1)
  obtain ⟨t0, t1⟩ := BB.out.tlie
  clear b1
  go_wp2_with fail
  ((with_reducible refine (HY.out _).mono ?_); rintro e w9 ⟨rfl, rfl⟩)
  go_wp2_with fail
  ((with_reducible refine (CK.out _).mono ?_); rintro e w2 ⟨rfl, b2⟩)
  have BC := Lib.hid (BB.out.later b2)
  obtain ⟨gk, hgk⟩ : ∃ n, w2.heap.size = n := ⟨_, rfl⟩
  have K3 := Blk.new w2 83 #[.func (Fn.func 74) #[] #[], .func (Fn.func 75) #[] #[], .func (Fn.func 76) #[] #[], .func (Fn.func 77) #[] #[], .func (Fn.func 78) #[] #[]]
  rw [hgk] at K3
  have b3 := box_new w2 (.cells #[.func (Fn.func 74) #[] #[], .func (Fn.func 75) #[] #[], .func (Fn.func 76) #[] #[], .func (Fn.func 77) #[] #[], .func (Fn.func 78) #[] #[]] 83)
  have B3 := BC.out.later b3
  have hne : gk ≠ w.heap.size + 1 := by
    have := BC.out.c.lt
    omega
  have HV := Lib.hid (show VU w gk (w.heap.size + 1) [.func (Fn.func 74) #[] #[], .func (Fn.func 75) #[] #[], .func (Fn.func 76) #[] #[], .func (Fn.func 77) #[] #[], .func (Fn.func 78) #[] #[]] (w2.alloc (.cells #[.func (Fn.func 74) #[] #[], .func (Fn.func 75) #[] #[], .func (Fn.func 76) #[] #[], .func (Fn.func 77) #[] #[], .func (Fn.func 78) #[] #[]] 83)) from ⟨B3.b, K3, Nat.le_succ _, hne, _, B3.c.heap, rfl⟩)
  clear b2 BB t0 t1 b3 K3 B3 BC
  go_wp2_with fail
  generalize w2.alloc (.cells #[.func (Fn.func 74) #[] #[], .func (Fn.func 75) #[] #[], .func (Fn.func 76) #[] #[], .func (Fn.func 77) #[] #[], .func (Fn.func 78) #[] #[]] 83) = W0 at *
  have C2 := Lib.hid (fun w1 (hv : VU w gk (w.heap.size + 1) [.func (Fn.func 74) #[] #[], .func (Fn.func 75) #[] #[], .func (Fn.func 76) #[] #[], .func (Fn.func 77) #[] #[], .func (Fn.func 78) #[] #[]] w1) => (CT.out w1 hv.1).mono (fun e w' h => (h : ∃ c n e0, e = _ ∧ Tk 2 (bl s2) c n e0 ∧ Below w1.heap.size w1 w')))
  go_region_held3 (fun w' => VU w gk (w.heap.size + 1) [.func (Fn.func 74) #[] #[], .func (Fn.func 75) #[] #[], .func (Fn.func 76) #[] #[], .func (Fn.func 77) #[] #[], .func (Fn.func 78) #[] #[]] w' ∧ w'.cell? ⟨gk, 4, none⟩ = some (.func (Fn.func 78) #[] #[]) ∧ (w'.cell? ⟨w.heap.size + 1, 0, none⟩ = some (gc w' ⟨w.heap.size + 1, 0, none⟩) ∧ w'.cell? ⟨w.heap.size + 1, 1, none⟩ = some (gc w' ⟨w.heap.size + 1, 1, none⟩) ∧ w'.cell? ⟨w.heap.size + 1, 2, none⟩ = some (gc w' ⟨w.heap.size + 1, 2, none⟩)) ∧
      w'.frozen? ⟨w.heap.size + 1, 0, none⟩ = false ∧ w'.frozen? ⟨w.heap.size + 1, 1, none⟩ = false ∧ w'.frozen? ⟨w.heap.size + 1, 2, none⟩ = false)
    (first | exact VU.keep HV.out | exact VU.keep (VU.later HV.out ((Below.refl _ _).drew)) | exact VU.keep HC.out | exact VU.keep (VU.set (VU.set (VU.set HC.out _ _) _ _) _ _) | fail "keep")
    ((first
      | (go_at_call 78; (with_reducible refine (C2.out _ (VU.later HV.out ((Below.refl _ _).drew))).mono ?_); rintro e wC ⟨c, n, e0, rfl, hk, b⟩; have HC := Lib.hid (VU.later (VU.later HV.out ((Below.refl _ _).drew)) b); have HK := Lib.hid hk; clear b hk; obtain ⟨gu, gn, gs⟩ := c; unfold cv; simp only)))
  rename_i hH
  clear hH
  have hm3 := HK.out.2.1
  have hn3 := HK.out.2.2.1
  rw [bl_length] at hn3
  have hE := unb_more true 2 (bl s2) ⟨gu, gn, gs⟩ n e0 HK.out
  obtain ⟨V3, U3⟩ := VU.three HC.out gu gn gs
  clear C2 CT CK HM HC HV hcut
  generalize ((wC.setCell ⟨w.heap.size + 1, 0, none⟩ (.bool gu)).setCell ⟨w.heap.size + 1, 1, none⟩ (.int .i64 gn)).setCell ⟨w.heap.size + 1, 2, none⟩ (.string gs) = w3 at *
  have k0 := U3.2.1.cell 0
  simp only [List.getElem?_cons_zero] at k0
  obtain ⟨v0, v1, v2⟩ := V3.lie
  obtain ⟨f0, f1, f2⟩ := V3.free
  simp only at v0 v1 v2
  have HV3 := Lib.hid V3
  have B3 := Lib.hid U3.1
  clear V3 U3
  have hnw : (n : Int) ≤ 100000 := by omega
  by_cases he : e0 = 0
  · subst he
    rw [if_neg (by decide)] at hE
    obtain ⟨r, hr⟩ : ∃ r, Cl.isK 2 ⟨gu, gn, gs⟩ = r := ⟨_, rfl⟩
    have CI := Lib.hid (fun w1 (hb : Below w.heap.size w w1) => kf2.is ⟨gu, gn, gs⟩ w1 r (TW.out w1 hb) HK.out.1 (Nat.le_trans hm3 (by decide)) hr)
    unfold cv at CI
    simp only at CI
    rw [hr] at hE
    clear hr hn3 hm3
    cases r with
    | false =>
      rw [if_neg (by decide)] at hE
      have HE := Lib.hid hE
      clear hE
      go_wp2_with fail
      ((with_reducible refine (CI.out _ B3.out).mono ?_); rintro e w6 ⟨rfl, b6⟩)
      have V6 := HV3.out.later b6
      have B6 := Lib.hid (up B3.out b6)
      obtain ⟨c0, c1, c2⟩ := V6.lie
      obtain ⟨g0, g1, g2⟩ := V6.free
      simp only at c0 c1 c2
      have HV6 := Lib.hid V6
      clear b6 k0 v0 v1 v2 f0 f1 f2 V6
      go_wp2_with fail
      exact bodyPost_ret (ret3 rfl _ _ (w.heap.size + 1) _ rfl (HV6.out.put _ _ _).heap) rfl ⟨by rw [HE.out]; rfl, put_below (Nat.le_succ _) B6.out _ _ _⟩
    | true =>
      rw [if_pos rfl] at hE
      have HE := Lib.hid hE
      clear hE
      go_wp2_with fail
      ((with_reducible refine (CI.out _ B3.out).mono ?_); rintro e w6 ⟨rfl, b6⟩)
      have V6 := HV3.out.later b6
      have B6 := Lib.hid (up B3.out b6)
      obtain ⟨c0, c1, c2⟩ := V6.lie
      obtain ⟨g0, g1, g2⟩ := V6.free
      simp only at c0 c1 c2
      have HV6 := Lib.hid V6
      clear b6 k0 v0 v1 v2 f0 f1 f2 V6
      go_wp2_with fail
      exact bodyPost_ret (ret3 rfl _ _ (w.heap.size + 1) _ rfl (HV6.out.put _ _ _).heap) rfl ⟨by rw [HE.out]; simp, put_below (Nat.le_succ _) B6.out _ _ _⟩
  · rw [if_pos he] at hE
    have HE := Lib.hid hE
    clear hE
    have he2 : ((e0 : Int) == 0) = false := by simp; omega
    have he3 : ((e0 : Int) != 0) = true := by simp; omega
    have HQ := Lib.hid he
    clear he hn3 hm3
    go_wp2_with fail
    exact bodyPost_ret (ret3 rfl _ _ (w.heap.size + 1) _ rfl (HV3.out.put _ _ _).heap) rfl ⟨by rw [HE.out]; rfl, put_below (Nat.le_succ _) B3.out _ _ _⟩

set_option maxHeartbeats 8000000 in
theorem unb3F (s s2 : ByteArray) (w : World) (T : TA w) (hm : s2.size ≤ 100000) (hcut : ∀ w, (Instr.slice 9 (.string s) (some (.int .i64 0)) none none).run Tryz.prog w = .ok (.string s2) w) : Calls Tryz.prog 54 #[tv false 3, .string s] w fun e w' => UbPost w (Cl.more false (Cl.bare 3 (bl s2))) e w' := by
  have HM := Lib.hid (fun w => cMay false 3 w true (by decide))
  have B0 := Lib.hid (BX.start w false 3 Cl.empty)
  have TW := Lib.hid (fun w1 (hb : Below w.heap.size w w1) => T.later hb)
  have CK := Lib.hid (fun w => kindOf3 false w)
  have CT := Lib.hid (fun w1 (hb : Below w.heap.size w w1) => (kf3.take s2 w1 (T.later hb) hm).mono (fun e w' h => (h : ∃ c n e0, e = _ ∧ Tk 3 (bl s2) c n e0 ∧ Below w1.heap.size w1 w')))
  clear T
  unfold tv kv3 at CK
  unfold Cl.empty at B0
  unfold tv at HM ⊢
  simp only at B0
  go_enter Tryz.func54, Tryz.ntmps54
  go_wp2_with fail
  ((with_reducible refine (HM.out _).mono ?_); rintro e w1 ⟨rfl, b1⟩)
  have BB := Lib.hid (B0.out.later b1)
  obtain ⟨t0, t1⟩ := BB.out.tlie
  clear b1
  go_wp2_with fail
  ((with_reducible refine (CK.out _).mono ?_); rintro e w2 ⟨rfl, b2⟩)
  have BC := Lib.hid (BB.out.later b2)
  obtain ⟨gk, hgk⟩ : ∃ n, w2.heap.size = n := ⟨_, rfl⟩
  have K3 := Blk.new w2 83 #[.func (Fn.func 79) #[] #[], .func (Fn.func 75) #[] #[], .func (Fn.func 76) #[] #[], .func (Fn.func 77) #[] #[], .func (Fn.func 78) #[] #[]]
  rw [hgk] at K3
  have b3 := box_new w2 (.cells #[.func (Fn.func 79) #[] #[], .func (Fn.func 75) #[] #[], .func (Fn.func 76) #[] #[], .func (Fn.func 77) #[] #[], .func (Fn.func 78) #[] #[]] 83)
  have B3 := BC.out.later b3
  have hne : gk ≠ w.heap.size + 1 := by
    have := BC.out.c.lt
    omega
  have HV := Lib.hid (show VU w gk (w.heap.size + 1) [.func (Fn.func 79) #[] #[], .func (Fn.func 75) #[] #[], .func (Fn.func 76) #[] #[], .func (Fn.func 77) #[] #[], .func (Fn.func 78) #[] #[]] (w2.alloc (.cells #[.func (Fn.func 79) #[] #[], .func (Fn.func 75) #[] #[], .func (Fn.func 76) #[] #[], .func (Fn.func 77) #[] #[], .func (Fn.func 78) #[] #[]] 83)) from ⟨B3.b, K3, Nat.le_succ _, hne, _, B3.c.heap, rfl⟩)
  clear b2 BB t0 t1 b3 K3 B3 BC
  go_wp2_with fail
  generalize w2.alloc (.cells #[.func (Fn.func 79) #[] #[], .func (Fn.func 75) #[] #[], .func (Fn.func 76) #[] #[], .func (Fn.func 77) #[] #[], .func (Fn.func 78) #[] #[]] 83) = W0 at *
  have C2 := Lib.hid (fun w1 (hv : VU w gk (w.heap.size + 1) [.func (Fn.func 79) #[] #[], .func (Fn.func 75) #[] #[], .func (Fn.func 76) #[] #[], .func (Fn.func 77) #[] #[], .func (Fn.func 78) #[] #[]] w1) => (CT.out w1 hv.1).mono (fun e w' h => (h : ∃ c n e0, e = _ ∧ Tk 3 (bl s2) c n e0 ∧ Below w1.heap.size w1 w')))
  go_region_held3 (fun w' => VU w gk (w.heap.size + 1) [.func (Fn.func 79) #[] #[], .func (Fn.func 75) #[] #[], .func (Fn.func 76) #[] #[], .func (Fn.func 77) #[] #[], .func (Fn.func 78) #[] #[]] w' ∧ w'.cell? ⟨gk, 4, none⟩ = some (.func (Fn.func 78) #[] #[]) ∧ (w'.cell? ⟨w.heap.size + 1, 0, none⟩ = some (gc w' ⟨w.heap.size + 1, 0, none⟩) ∧ w'.cell? ⟨w.heap.size + 1, 1, none⟩ = some (gc w' ⟨w.heap.size + 1, 1, none⟩) ∧ w'.cell? ⟨w.heap.size + 1, 2, none⟩ = some (gc w' ⟨w.heap.size + 1, 2, none⟩)) ∧
      w'.frozen? ⟨w.heap.size + 1, 0, none⟩ = false ∧ w'.frozen? ⟨w.heap.size + 1, 1, none⟩ = false ∧ w'.frozen? ⟨w.heap.size + 1, 2, none⟩ = false)
    (first | exact VU.keep HV.out | exact VU.keep (VU.later HV.out ((Below.refl _ _).drew)) | exact VU.keep HC.out | exact VU.keep (VU.set (VU.set (VU.set HC.out _ _) _ _) _ _) | fail "keep")
    ((first
      | (go_at_call 78; (with_reducible refine (C2.out _ (VU.later HV.out ((Below.refl _ _).drew))).mono ?_); rintro e wC ⟨c, n, e0, rfl, hk, b⟩; have HC := Lib.hid (VU.later (VU.later HV.out ((Below.refl _ _).drew)) b); have HK := Lib.hid hk; clear b hk; obtain ⟨gu, gn, gs⟩ := c; unfold cv; simp only)))
  rename_i hH
  clear hH
  have hm3 := HK.out.2.1
  have hn3 := HK.out.2.2.1
  rw [bl_length] at hn3
  have hE := unb_more false 3 (bl s2) ⟨gu, gn, gs⟩ n e0 HK.out
  obtain ⟨V3, U3⟩ := VU.three HC.out gu gn gs
  clear C2 CT CK HM HC HV hcut
  generalize ((wC.setCell ⟨w.heap.size + 1, 0, none⟩ (.bool gu)).setCell ⟨w.heap.size + 1, 1, none⟩ (.int .i64 gn)).setCell ⟨w.heap.size + 1, 2, none⟩ (.string gs) = w3 at *
  have k0 := U3.2.1.cell 0
  simp only [List.getElem?_cons_zero] at k0
  obtain ⟨v0, v1, v2⟩ := V3.lie
  obtain ⟨f0, f1, f2⟩ := V3.free
  simp only at v0 v1 v2
  have HV3 := Lib.hid V3
  have B3 := Lib.hid U3.1
  clear V3 U3
  have hnw : (n : Int) ≤ 100000 := by omega
  by_cases he : e0 = 0
  · subst he
    rw [if_neg (by decide)] at hE
    obtain ⟨r, hr⟩ : ∃ r, Cl.isK 3 ⟨gu, gn, gs⟩ = r := ⟨_, rfl⟩
    have CI := Lib.hid (fun w1 (hb : Below w.heap.size w w1) => kf3.is ⟨gu, gn, gs⟩ w1 r (TW.out w1 hb) HK.out.1 (Nat.le_trans hm3 (by decide)) hr)
    unfold cv at CI
    simp only at CI
    rw [hr] at hE
    clear hr hn3 hm3
    cases r with
    | false =>
      rw [if_neg (by decide)] at hE
      have HE := Lib.hid hE
      clear hE
      go_wp2_with fail
      ((with_reducible refine (CI.out _ B3.out).mono ?_); rintro e w6 ⟨rfl, b6⟩)
      have V6 := HV3.out.later b6
      have B6 := Lib.hid (up B3.out b6)
      obtain ⟨c0, c1, c2⟩ := V6.lie
      obtain ⟨g0, g1, g2⟩ := V6.free
      simp only at c0 c1 c2
      have HV6 := Lib.hid V6
      clear b6 k0 v0 v1 v2 f0 f1 f2 V6
      go_wp2_with fail
      exact bodyPost_ret (ret3 rfl _ _ (w.heap.size + 1) _ rfl (HV6.out.put _ _ _).heap) rfl ⟨by rw [HE.out]; rfl, put_below (Nat.le_succ _) B6.out _ _ _⟩
    | true =>
      rw [if_pos rfl] at hE
      have HE := Lib.hid hE
      clear hE
      go_wp2_with fail
      ((with_reducible refine (CI.out _ B3.out).mono ?_); rintro e w6 ⟨rfl, b6⟩)
      have V6 := HV3.out.later b6
      have B6 := Lib.hid (up B3.out b6)
      obtain ⟨c0, c1, c2⟩ := V6.lie
      obtain ⟨g0, g1, g2⟩ := V6.free
      simp only at c0 c1 c2
      have HV6 := Lib.hid V6
      clear b6 k0 v0 v1 v2 f0 f1 f2 V6
      go_wp2_with fail
      exact bodyPost_ret (ret3 rfl _ _ (w.heap.size + 1) _ rfl (HV6.out.put _ _ _).heap) rfl ⟨by rw [HE.out]; simp, put_below (Nat.le_succ _) B6.out _ _ _⟩
  · rw [if_pos he] at hE
    have HE := Lib.hid hE
    clear hE
    have he2 : ((e0 : Int) == 0) = false := by simp; omega
    have he3 : ((e0 : Int) != 0) = true := by simp; omega
    have HQ := Lib.hid he
    clear he hn3 hm3
    go_wp2_with fail
    exact bodyPost_ret (ret3 rfl _ _ (w.heap.size + 1) _ rfl (HV3.out.put _ _ _).heap) rfl ⟨by rw [HE.out]; rfl, put_below (Nat.le_succ _) B3.out _ _ _⟩

set_option maxHeartbeats 8000000 in
theorem unb3T (s s2 : ByteArray) (w : World) (T : TA w) (hm : s2.size ≤ 100000) (h1 : 1 ≤ s.size) (hy : ty (bl s) = (true, 1, 0)) (hcut : ∀ w, (Instr.slice 9 (.string s) (some (.int .i64 1)) none none).run Tryz.prog w = .ok (.string s2) w) : Calls Tryz.prog 54 #[tv true 3, .string s] w fun e w' => UbPost w (Cl.more true (Cl.bare 3 (bl s2))) e w' := by
  have HM := Lib.hid (fun w => cMay true 3 w true (by decide))
  have B0 := Lib.hid (BX.start w true 3 Cl.empty)
  have TW := Lib.hid (fun w1 (hb : Below w.heap.size w w1) => T.later hb)
  have CK := Lib.hid (fun w => kindOf3 true w)
  have CT := Lib.hid (fun w1 (hb : Below w.heap.size w w1) => (kf3.take s2 w1 (T.later hb) hm).mono (fun e w' h => (h : ∃ c n e0, e = _ ∧ Tk 3 (bl s2) c n e0 ∧ Below w1.heap.size w1 w')))
  have HY := Lib.hid (fun w => cTakeYes s w true 1 0 hy)
  have H1 := Lib.hid h1
  clear hy h1
  clear T
  unfold tv kv3 at CK
  unfold Cl.empty at B0
  unfold tv at HM ⊢
  simp only at B0
  go_enter Tryz.func54, Tryz.ntmps54
  go_wp2_with fail
  ((with_reducible refine (HM.out _).mono ?_); rintro e w1 ⟨rfl, b1⟩)
  have BB := Lib.hid (B0.out.later b1)
  obtain ⟨t0, t1⟩ := BB.out.tlie
  clear b1
  go_wp2_with fail
  ((with_reducible refine (HY.out _).mono ?_); rintro e w9 ⟨rfl, rfl⟩)
  go_wp2_with fail
  ((with_reducible refine (CK.out _).mono ?_); rintro e w2 ⟨rfl, b2⟩)
  have BC := Lib.hid (BB.out.later b2)
  obtain ⟨gk, hgk⟩ : ∃ n, w2.heap.size = n := ⟨_, rfl⟩
  have K3 := Blk.new w2 83 #[.func (Fn.func 79) #[] #[], .func (Fn.func 75) #[] #[], .func (Fn.func 76) #[] #[], .func (Fn.func 77) #[] #[], .func (Fn.func 78) #[] #[]]
  rw [hgk] at K3
  have b3 := box_new w2 (.cells #[.func (Fn.func 79) #[] #[], .func (Fn.func 75) #[] #[], .func (Fn.func 76) #[] #[], .func (Fn.func 77) #[] #[], .func (Fn.func 78) #[] #[]] 83)
  have B3 := BC.out.later b3
  have hne : gk ≠ w.heap.size + 1 := by
    have := BC.out.c.lt
    omega
  have HV := Lib.hid (show VU w gk (w.heap.size + 1) [.func (Fn.func 79) #[] #[], .func (Fn.func 75) #[] #[], .func (Fn.func 76) #[] #[], .func (Fn.func 77) #[] #[], .func (Fn.func 78) #[] #[]] (w2.alloc (.cells #[.func (Fn.func 79) #[] #[], .func (Fn.func 75) #[] #[], .func (Fn.func 76) #[] #[], .func (Fn.func 77) #[] #[], .func (Fn.func 78) #[] #[]] 83)) from ⟨B3.b, K3, Nat.le_succ _, hne, _, B3.c.heap, rfl⟩)
  clear b2 BB t0 t1 b3 K3 B3 BC
  go_wp2_with fail
  generalize w2.alloc (.cells #[.func (Fn.func 79) #[] #[], .func (Fn.func 75) #[] #[], .func (Fn.func 76) #[] #[], .func (Fn.func 77) #[] #[], .func (Fn.func 78) #[] #[]] 83) = W0 at *
  have C2 := Lib.hid (fun w1 (hv : VU w gk (w.heap.size + 1) [.func (Fn.func 79) #[] #[], .func (Fn.func 75) #[] #[], .func (Fn.func 76) #[] #[], .func (Fn.func 77) #[] #[], .func (Fn.func 78) #[] #[]] w1) => (CT.out w1 hv.1).mono (fun e w' h => (h : ∃ c n e0, e = _ ∧ Tk 3 (bl s2) c n e0 ∧ Below w1.heap.size w1 w')))
  go_region_held3 (fun w' => VU w gk (w.heap.size + 1) [.func (Fn.func 79) #[] #[], .func (Fn.func 75) #[] #[], .func (Fn.func 76) #[] #[], .func (Fn.func 77) #[] #[], .func (Fn.func 78) #[] #[]] w' ∧ w'.cell? ⟨gk, 4, none⟩ = some (.func (Fn.func 78) #[] #[]) ∧ (w'.cell? ⟨w.heap.size + 1, 0, none⟩ = some (gc w' ⟨w.heap.size + 1, 0, none⟩) ∧ w'.cell? ⟨w.heap.size + 1, 1, none⟩ = some (gc w' ⟨w.heap.size + 1, 1, none⟩) ∧ w'.cell? ⟨w.heap.size + 1, 2, none⟩ = some (gc w' ⟨w.heap.size + 1, 2, none⟩)) ∧
      w'.frozen? ⟨w.heap.size + 1, 0, none⟩ = false ∧ w'.frozen? ⟨w.heap.size + 1, 1, none⟩ = false ∧ w'.frozen? ⟨w.heap.size + 1, 2, none⟩ = false)
    (first | exact VU.keep HV.out | exact VU.keep (VU.later HV.out ((Below.refl _ _).drew)) | exact VU.keep HC.out | exact VU.keep (VU.set (VU.set (VU.set HC.out _ _) _ _) _ _) | fail "keep")
    ((first
      | (go_at_call 78; (with_reducible refine (C2.out _ (VU.later HV.out ((Below.refl _ _).drew))).mono ?_); rintro e wC ⟨c, n, e0, rfl, hk, b⟩; have HC := Lib.hid (VU.later (VU.later HV.out ((Below.refl _ _).drew)) b); have HK := Lib.hid hk; clear b hk; obtain ⟨gu, gn, gs⟩ := c; unfold cv; simp only)))
  rename_i hH
  clear hH
  have hm3 := HK.out.2.1
  have hn3 := HK.out.2.2.1
  rw [bl_length] at hn3
  have hE := unb_more true 3 (bl s2) ⟨gu, gn, gs⟩ n e0 HK.out
  obtain ⟨V3, U3⟩ := VU.three HC.out gu gn gs
  clear C2 CT CK HM HC HV hcut
  generalize ((wC.setCell ⟨w.heap.size + 1, 0, none⟩ (.bool gu)).setCell ⟨w.heap.size + 1, 1, none⟩ (.int .i64 gn)).setCell ⟨w.heap.size + 1, 2, none⟩ (.string gs) = w3 at *
  have k0 := U3.2.1.cell 0
  simp only [List.getElem?_cons_zero] at k0
  obtain ⟨v0, v1, v2⟩ := V3.lie
  obtain ⟨f0, f1, f2⟩ := V3.free
  simp only at v0 v1 v2
  have HV3 := Lib.hid V3
  have B3 := Lib.hid U3.1
  clear V3 U3
  have hnw : (n : Int) ≤ 100000 := by omega
  by_cases he : e0 = 0
  · subst he
    rw [if_neg (by decide)] at hE
    obtain ⟨r, hr⟩ : ∃ r, Cl.isK 3 ⟨gu, gn, gs⟩ = r := ⟨_, rfl⟩
    have CI := Lib.hid (fun w1 (hb : Below w.heap.size w w1) => kf3.is ⟨gu, gn, gs⟩ w1 r (TW.out w1 hb) HK.out.1 (Nat.le_trans hm3 (by decide)) hr)
    unfold cv at CI
    simp only at CI
    rw [hr] at hE
    clear hr hn3 hm3
    cases r with
    | false =>
      rw [if_neg (by decide)] at hE
      have HE := Lib.hid hE
      clear hE
      go_wp2_with fail
      ((with_reducible refine (CI.out _ B3.out).mono ?_); rintro e w6 ⟨rfl, b6⟩)
      have V6 := HV3.out.later b6
      have B6 := Lib.hid (up B3.out b6)
      obtain ⟨c0, c1, c2⟩ := V6.lie
      obtain ⟨g0, g1, g2⟩ := V6.free
      simp only at c0 c1 c2
      have HV6 := Lib.hid V6
      clear b6 k0 v0 v1 v2 f0 f1 f2 V6
      go_wp2_with fail
      exact bodyPost_ret (ret3 rfl _ _ (w.heap.size + 1) _ rfl (HV6.out.put _ _ _).heap) rfl ⟨by rw [HE.out]; rfl, put_below (Nat.le_succ _) B6.out _ _ _⟩
    | true =>
      rw [if_pos rfl] at hE
      have HE := Lib.hid hE
      clear hE
      go_wp2_with fail
      ((with_reducible refine (CI.out _ B3.out).mono ?_); rintro e w6 ⟨rfl, b6⟩)
      have V6 := HV3.out.later b6
      have B6 := Lib.hid (up B3.out b6)
      obtain ⟨c0, c1, c2⟩ := V6.lie
      obtain ⟨g0, g1, g2⟩ := V6.free
      simp only at c0 c1 c2
      have HV6 := Lib.hid V6
      clear b6 k0 v0 v1 v2 f0 f1 f2 V6
      go_wp2_with fail
      exact bodyPost_ret (ret3 rfl _ _ (w.heap.size + 1) _ rfl (HV6.out.put _ _ _).heap) rfl ⟨by rw [HE.out]; simp, put_below (Nat.le_succ _) B6.out _ _ _⟩
  · rw [if_pos he] at hE
    have HE := Lib.hid hE
    clear hE
    have he2 : ((e0 : Int) == 0) = false := by simp; omega
    have he3 : ((e0 : Int) != 0) = true := by simp; omega
    have HQ := Lib.hid he
    clear he hn3 hm3
    go_wp2_with fail
    exact bodyPost_ret (ret3 rfl _ _ (w.heap.size + 1) _ rfl (HV3.out.put _ _ _).heap) rfl ⟨by rw [HE.out]; rfl, put_below (Nat.le_succ _) B3.out _ _ _⟩

end Go.Proofs.YtfplogjdcndohaaGreatDoor
