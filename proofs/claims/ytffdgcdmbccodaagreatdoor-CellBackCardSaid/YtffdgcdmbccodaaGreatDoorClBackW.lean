/- CellBack's walk: a cell's text and its bits are read as the cell. -/
import Derived.Test.YtffdgcdmbccodaaGreatDoorClCut
import Derived.Deep.RegionHeld3
namespace Go.Proofs.YtffdgcdmbccodaaGreatDoor
open Go.RowKit
set_option linter.unusedVariables false
set_option maxRecDepth 100000

theorem BX.put3 {w0 w : World} {u : Bool} {k : Int} {c : Cl.C} (h : BX w0 u k c w) (a : Bool) (n : Int) (s : ByteArray) : BX w0 u k ⟨a, n, s⟩ (((w.setCell ⟨w0.heap.size + 1, 0, none⟩ (.bool a)).setCell ⟨w0.heap.size + 1, 1, none⟩ (.int .i64 n)).setCell ⟨w0.heap.size + 1, 2, none⟩ (.string s)) :=
  ⟨Blk.past h.t (by omega) _ _ _, CV.put h.c _ _ _, put_below (by omega) h.b _ _ _⟩
theorem back_str (l : List Nat) (hl : ∀ x ∈ l, x < 256) (s y z : ByteArray) (hy : str l = y) (hz : y ++ s = z) : bl z = l ++ bl s := by
  subst hz; subst hy; rw [bl_append, bl_str _ hl]
theorem app_sum (y s z : ByteArray) (h : y.size + s.size ≤ 9223372036854775807) (e : y ++ s = z) (w : World) : True := trivial
set_option maxHeartbeats 8000000 in
theorem cellBack (u : Bool) (k : Int) (c : Cl.C) (s : ByteArray) (w : World) (hk : Cl.I64 k) (ci : Cl.I64 c.n) (cm : c.s.size ≤ maxLen) (hs : s.size ≤ maxLen) (T : TA w) : Calls Tryz.prog 12 #[tv u k, cv c, .string s] w fun e w' => e = .returned (.bool true) ∧ Below w.heap.size w w' := by
  unfold maxLen at hs
  obtain ⟨s2, hs2⟩ : ∃ s2, s.extract 0 (min (s.size : Int) 60).toNat = s2 := ⟨_, rfl⟩
  have hsl : ∀ w, (Instr.slice 9 (.string s) none (some (.int .i64 (min (s.size : Int) 60))) none).run Tryz.prog w = .ok (.string s2) w := fun w => by
    rw [run_slice_string_to_if w 9 s .i64 _ Tryz.underlying9, if_pos (by omega), hs2]
  have hm : s2.size ≤ 60 := by rw [← hs2, ByteArray.size_extract]; omega
  have HM := Lib.hid hm
  have B0 := Lib.hid (BX.start w u k c)
  have TW := Lib.hid (fun w1 (hb : Below w.heap.size w w1) => T.later hb)
  have CW := Lib.hid (fun w1 (hb : Below w.heap.size w w1) => works w1 (TW.out w1 hb))
  obtain ⟨d, hd⟩ : ∃ d, cutC c = d := ⟨_, rfl⟩
  have hdm : d.s.size ≤ 1100 := hd ▸ cutC_size c
  have hdi : Cl.I64 d.n := hd ▸ cutC_i64 c ci
  have LA := Lib.hid (fun w => lCut c d w cm hd)
  obtain ⟨e0, he⟩ : ∃ e0, Cl.chk u k d = e0 := ⟨_, rfl⟩
  have CC := Lib.hid (fun w1 (hb : Below w.heap.size w w1) => checks u k d w1 (TW.out w1 hb) hdi (by omega) e0 he)
  have HE := Lib.hid he
  have HDM := Lib.hid hdm
  have HDI := Lib.hid hdi
  clear T hs2 hm hk hd hdm hdi he ci cm
  obtain ⟨u0, n0, s0⟩ := c
  unfold tv cv at CC ⊢
  unfold cv at LA
  simp only at LA CC B0 ⊢
  go_enter Tryz.func12, Tryz.ntmps12
  go_wp2_with fail
  ((with_reducible refine (LA.out _).mono ?_); rintro e w1 ⟨rfl, b1⟩)
  have B1 := Lib.hid (B0.out.later b1)
  obtain ⟨du, dn, ds⟩ := d
  obtain ⟨⟨t0, t1⟩, ⟨c0, c1, c2⟩⟩ := B1.out.lies
  obtain ⟨f0, f1, f2⟩ := B1.out.c.free
  have B2 := Lib.hid (B1.out.put3 du dn ds)
  simp only at c0 c1 c2 LA CC
  clear b1
  go_wp2_with fail
  ((with_reducible refine (CC.out _ B2.out.b).mono ?_); rintro e w3 ⟨rfl, b3⟩)
  have B3 := Lib.hid (B2.out.later b3)
  clear t0 t1 c0 c1 c2 f0 f1 f2 b3 LA
  clear B0 B1 B2
  obtain ⟨⟨t0, t1⟩, ⟨c0, c1, c2⟩⟩ := B3.out.lies
  simp only at c0 c1 c2
  by_cases hz : e0 = 0
  rotate_left
  · have hz2 : ((e0 : Int) != 0) = true := by simp; omega
    clear hz
    go_wp2_with fail
    ((with_reducible refine (CW.out _ B3.out.b).mono ?_); rintro e w4 ⟨rfl, b4⟩)
    have B4 := Lib.hid (up B3.out.b b4)
    clear b4
    go_wp2_with fail
    go_ret
    exact ⟨rfl, B4.out⟩
  subst hz
  obtain ⟨h1, h2⟩ := Cl.chk_ok HE.out
  obtain ⟨x, hx⟩ : ∃ x, Cl.txt k ⟨du, dn, ds⟩ = x := ⟨_, rfl⟩
  obtain ⟨y, hy⟩ : ∃ y, str (Cl.bts u k ⟨du, dn, ds⟩) = y := ⟨_, rfl⟩
  obtain ⟨z, hz⟩ : ∃ z, y ++ s2 = z := ⟨_, rfl⟩
  have q1 : x.size ≤ 6200 := hx ▸ Cl.txt_size h1 h2 HDI.out
  have q2 : y.size = (Cl.bts u k ⟨du, dn, ds⟩).length := by rw [← hy, str_size]
  have q3 : y.size ≤ 2051 := q2 ▸ Cl.bts_size h1 h2
  have q4 : y.size + s2.size ≤ 9223372036854775807 := by have := HM.out; omega
  have q5 : z.size ≤ 100000 := by have := HM.out; rw [← hz, ByteArray.size_append]; omega
  have RX : Cl.Rdd u k x ⟨du, dn, ds⟩ 0 := .inr (.inl ⟨h1, rfl, h2, HDI.out, hx⟩)
  have ux : Cl.unb u k (bl z) = (⟨du, dn, ds⟩, y.size, 0) := by
    rw [back_str (Cl.bts u k ⟨du, dn, ds⟩) (Cl.bts_byte h1 h2) s2 y z hy hz, Cl.unb_bts u k _ h1 h2 HDI.out, q2]
  have CT := Lib.hid (fun w1 (hb : Below w.heap.size w w1) => texts u k ⟨du, dn, ds⟩ w1 (TW.out w1 hb) HDI.out (Nat.le_trans HDM.out (by decide)) 0 HE.out x (by rw [if_pos rfl]; exact hx))
  have CB := Lib.hid (fun w1 (hb : Below w.heap.size w w1) => bitss u k ⟨du, dn, ds⟩ w1 (TW.out w1 hb) HDI.out (Nat.le_trans HDM.out (by decide)) 0 HE.out y (by rw [if_pos rfl]; exact hy))
  have CR := Lib.hid (fun w1 (hb : Below w.heap.size w w1) => (reads u k x w1 (TW.out w1 hb) (by omega)).mono (fun e w' h => by
    obtain ⟨c, e1, he, h3, _, _, h6⟩ := h
    obtain ⟨rfl, rfl⟩ := Cl.Rdd.only h3 RX
    exact (⟨he, h6⟩ : e = .returned (.tuple #[cv ⟨du, dn, ds⟩, .int .i64 (0 : Nat)]) ∧ Below w1.heap.size w1 w')))
  have CU := Lib.hid (fun w1 (hb : Below w.heap.size w w1) => (unbits u k z w1 (TW.out w1 hb) q5 _ ux).mono (fun e w' h => (h : e = .returned (.tuple #[cv ⟨du, dn, ds⟩, .int .i64 (y.size : Nat), .int .i64 (0 : Nat)]) ∧ Below w1.heap.size w1 w')))
  have HQ := fun w => run_eqc ⟨du, dn, ds⟩ ⟨du, dn, ds⟩ w
  rw [eqc_dec ⟨du, dn, ds⟩ ⟨du, dn, ds⟩ true (by simp)] at HQ
  unfold tv cv at CT CB CR
  unfold tv UbPost at CU
  unfold cv at HQ CU
  simp only at CT CB CR CU HQ
  clear h1 h2 hx hy q1 q2 q3 q5 RX ux CC HE HDM HDI
  subst hz
  go_wp2_with fail
  ((with_reducible refine (CT.out _ B3.out.b).mono ?_); rintro e w4 ⟨rfl, b4⟩)
  have B4 := Lib.hid (B3.out.later b4)
  clear t0 t1 c0 c1 c2 b4 B3
  obtain ⟨⟨t0, t1⟩, ⟨c0, c1, c2⟩⟩ := B4.out.lies
  simp only at c0 c1 c2
  go_wp2_with fail
  ((with_reducible refine (CR.out _ B4.out.b).mono ?_); rintro e w5 ⟨rfl, b5⟩)
  have B5 := Lib.hid (B4.out.later b5)
  clear t0 t1 c0 c1 c2 b5 B4
  obtain ⟨gd, hgd⟩ : ∃ n, w5.heap.size = n := ⟨_, rfl⟩
  have b6 := box_new w5 (.cells #[.bool du, .int .i64 dn, .string ds] 48)
  have X6 := CV.new w5 du dn ds
  rw [hgd] at X6
  have X6 := Lib.hid X6
  have B6 := Lib.hid (B5.out.later b6)
  obtain ⟨⟨t0, t1⟩, ⟨c0, c1, c2⟩⟩ := B6.out.lies
  simp only at c0 c1 c2
  clear b6
  go_wp2_with fail
  ((with_reducible refine (CB.out _ B6.out.b).mono ?_); rintro e w7 ⟨rfl, b7⟩)
  have B7 := Lib.hid (B6.out.later b7)
  have X7 := Lib.hid (X6.out.later b7)
  clear t0 t1 c0 c1 c2 b7 B6 X6 B5
  obtain ⟨⟨t0, t1⟩, ⟨c0, c1, c2⟩⟩ := B7.out.lies
  obtain ⟨x0, x1, x2⟩ := X7.out.lie
  simp only at c0 c1 c2 x0 x1 x2
  go_wp2_with fail
  have BA := Lib.hid B7.out.b
  have hadd := fun w => run_string_add_sum (w := w) (P := Tryz.prog) y s2 q4
  have SK := Lib.hid (fun w1 (hb : Below w7.heap.size w7 w1) => (⟨hb, (B7.out.later hb).t.lie⟩ : Below w7.heap.size w7 w1 ∧ _))
  have C1 := Lib.hid (fun w1 (hb : Below w7.heap.size w7 w1) => (CU.out w1 (up BA.out hb)).mono (fun e w' h => (⟨h.1, up hb h.2, h.2⟩ : e = _ ∧ Below w7.heap.size w7 w' ∧ Below w1.heap.size w1 w')))
  have XN := Lib.hid (fun w' (hb : Below (w7.alloc (.cells #[.bool false, .int .i64 0, .string ⟨#[]⟩] 48)).drew.heap.size (w7.alloc (.cells #[.bool false, .int .i64 0, .string ⟨#[]⟩] 48)).drew w') =>
    ((show CV (w7.alloc (.cells #[.bool false, .int .i64 0, .string ⟨#[]⟩] 48)).drew w7.heap.size ⟨false, 0, ⟨#[]⟩⟩ from CV.new w7 false 0 ⟨#[]⟩).later hb))
  go_region_held3 (fun w' => Below w7.heap.size w7 w' ∧ (w'.cell? ⟨w.heap.size, 0, none⟩ = some (.int .i64 k) ∧ w'.cell? ⟨w.heap.size, 1, none⟩ = some (.bool u)))
    (first | exact SK.out _ (Below.refl _ _).drew | exact SK.out _ (Below.refl _ _) | exact SK.out _ HA.out | exact SK.out _ (up_new _ _) | exact SK.out _ (up (Below.refl _ _).drew (up_new _ _)) | exact SK.out _ (up HA.out (up_new _ _)) | exact SK.out _ (put_below HA.out.size (up HA.out (up_new _ _)) _ _ _) | exact SK.out _ (put_below (Nat.le_refl _) HA.out _ _ _) | fail "keep")
    ((first
      | (go_at_call 43; (with_reducible refine (C1.out _ (Below.refl _ _).drew).mono ?_); rintro e wA ⟨rfl, hA, hN⟩; have HA := Lib.hid hA; clear hA hN)
      | (go_at_call 43; (with_reducible refine (C1.out _ (up_new _ _).drew).mono ?_); rintro e wA ⟨rfl, hA, hN⟩; have XA := Lib.hid (XN.out _ hN); obtain ⟨m0, m1, m2⟩ := XA.out.lie; obtain ⟨g0, g1, g2⟩ := XA.out.free; have HA := Lib.hid hA; clear hA hN)))
  · rename_i hHeld; clear hHeld
    have BL := Lib.hid (up HA.out (up_new wA (.cells #[.bool du, .int .i64 dn, .string ds] 48)))
    have B8 := Lib.hid (B7.out.later BL.out)
    have X8 := Lib.hid (X7.out.later BL.out)
    have Z8 := Lib.hid (CV.new wA du dn ds)
    clear t0 t1 c0 c1 c2 x0 x1 x2
    obtain ⟨c0, c1, c2⟩ := B8.out.c.lie
    obtain ⟨x0, x1, x2⟩ := X8.out.lie
    obtain ⟨z0, z1, z2⟩ := Z8.out.lie
    simp only at c0 c1 c2 x0 x1 x2 z0 z1 z2
    go_wp2_with fail
    ((with_reducible refine (CW.out _ B8.out.b).mono ?_); rintro e w9 ⟨rfl, b9⟩)
    have B9 := Lib.hid (up B8.out.b b9)
    clear b9
    go_wp2_with fail
    go_ret
    exact ⟨rfl, B9.out⟩
  · rename_i hHeld; clear hHeld
    have BL := Lib.hid (put_below (Nat.le_refl _) HA.out (.bool du) (.int .i64 dn) (.string ds))
    have B8 := Lib.hid (B7.out.later BL.out)
    have X8 := Lib.hid (X7.out.later BL.out)
    have Z8 := Lib.hid (XA.out.put du dn ds)
    clear t0 t1 c0 c1 c2 x0 x1 x2
    obtain ⟨c0, c1, c2⟩ := B8.out.c.lie
    obtain ⟨x0, x1, x2⟩ := X8.out.lie
    obtain ⟨z0, z1, z2⟩ := Z8.out.lie
    simp only at c0 c1 c2 x0 x1 x2 z0 z1 z2
    go_wp2_with fail
    ((with_reducible refine (CW.out _ B8.out.b).mono ?_); rintro e w9 ⟨rfl, b9⟩)
    have B9 := Lib.hid (up B8.out.b b9)
    clear b9
    go_wp2_with fail
    go_ret
    exact ⟨rfl, B9.out⟩
  · rename_i hHeld; clear hHeld
    have BL := Lib.hid (put_below (Nat.le_refl _) HA.out (.bool du) (.int .i64 dn) (.string ds))
    have B8 := Lib.hid (B7.out.later BL.out)
    have X8 := Lib.hid (X7.out.later BL.out)
    have Z8 := Lib.hid (XA.out.put du dn ds)
    clear t0 t1 c0 c1 c2 x0 x1 x2
    obtain ⟨c0, c1, c2⟩ := B8.out.c.lie
    obtain ⟨x0, x1, x2⟩ := X8.out.lie
    obtain ⟨z0, z1, z2⟩ := Z8.out.lie
    simp only at c0 c1 c2 x0 x1 x2 z0 z1 z2
    go_wp2_with fail
    ((with_reducible refine (CW.out _ B8.out.b).mono ?_); rintro e w9 ⟨rfl, b9⟩)
    have B9 := Lib.hid (up B8.out.b b9)
    clear b9
    go_wp2_with fail
    go_ret
    exact ⟨rfl, B9.out⟩
end Go.Proofs.YtffdgcdmbccodaaGreatDoor
