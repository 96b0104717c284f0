/- CellOnly's walk: what is read is written so; what is taken off has just those bits. -/
import Derived.Test.YtffdgcdmbccodaaGreatDoorClWork
namespace Go.Proofs.YtffdgcdmbccodaaGreatDoor
open Go.RowKit
set_option linter.unusedVariables false
set_option maxRecDepth 100000

theorem isK_dt {u : Bool} {k : Int} {c : Cl.C} (h : Cl.of u k c = true) : c.s.size ≤ 1024 := by
  rcases Cl.of_parts h with ⟨_, _, _, h4⟩ | ⟨h1, h2⟩
  · rw [bl_nil.1 h4]; omega
  · have q := isK_at h2
    by_cases h3 : k = 1
    · rw [bl_nil.1 (q.2.1 h3).1]; omega
    · by_cases h4 : k = 2 ∨ k = 3
      · rw [bl_nil.1 (q.2.2.1 h4)]; omega
      · by_cases h5 : k = 4
        · exact (q.2.2.2.1 h5).2.1
        · unfold Cl.isK at h2
          rw [h1, if_neg h3, if_neg (fun e => h4 (.inl e)), if_neg (fun e => h4 (.inr e)), if_neg h5] at h2
          simp at h2
          exact h2.2
theorem eqc_self (c : Cl.C) : eqc c c = true := eqc_dec _ _ true (by simp)
set_option maxHeartbeats 8000000 in
theorem cellOnly (u : Bool) (k : Int) (s : ByteArray) (w : World) (hk : Cl.I64 k) (hs : s.size ≤ maxLen) (T : TA w) : Calls Tryz.prog 13 #[tv u k, .string s] w fun e w' => e = .returned (.bool true) ∧ Below w.heap.size w w' := by
  unfold maxLen at hs
  obtain ⟨s2, hs2⟩ : ∃ s2, s.extract 0 (min (s.size : Int) 2200).toNat = s2 := ⟨_, rfl⟩
  have hsl : ∀ w, (Instr.slice 9 (.string s) none (some (.int .i64 (min (s.size : Int) 2200))) none).run Tryz.prog w = .ok (.string s2) w := fun w => by
    rw [run_slice_string_to_if w 9 s .i64 _ Tryz.underlying9, if_pos (by omega), hs2]
  have hm : s2.size ≤ 2200 := by rw [← hs2, ByteArray.size_extract]; omega
  have HM := Lib.hid hm
  have B0 := Lib.hid (box_new w (.cells #[.int .i64 k, .bool u] 46))
  have V0 := Lib.hid (TV.new w u k)
  have TW := Lib.hid (fun w1 (hb : Below w.heap.size w w1) => T.later hb)
  have CR := Lib.hid (fun w1 (hb : Below w.heap.size w w1) => reads u k s2 w1 (TW.out w1 hb) (by omega))
  have CW := Lib.hid (fun w1 (hb : Below w.heap.size w w1) => works w1 (TW.out w1 hb))
  obtain ⟨d, n, g, hr⟩ : ∃ d n g, Cl.unb u k (bl s2) = (d, n, g) := ⟨_, _, _, rfl⟩
  have CU := Lib.hid (fun w1 (hb : Below w.heap.size w w1) => (unbits u k s2 w1 (TW.out w1 hb) (by omega) _ hr).mono (fun e w' h => (h : e = .returned (.tuple #[cv d, .int .i64 (n : Nat), .int .i64 (g : Nat)]) ∧ Below w1.heap.size w1 w')))
  have UR := Lib.hid hr
  clear T hs2 hm hr hk
  unfold tv at CR CU ⊢
  go_enter Tryz.func13, Tryz.ntmps13
  go_wp2_with fail
  ((with_reducible refine (CR.out _ B0.out).mono ?_); rintro e w1 ⟨c, e0, rfl, hd, ci, cs, b1⟩)
  have B1 := Lib.hid (B0.out.trans (b1.mono (by simp)))
  have V1 := Lib.hid (V0.out.later b1)
  have HD := Lib.hid hd
  have HI := Lib.hid (And.intro ci cs)
  obtain ⟨cu, cn, ct⟩ := c
  obtain ⟨gc0, hgc⟩ : ∃ n, w1.heap.size = n := ⟨_, rfl⟩
  have b2 := box_new w1 (.cells #[.bool cu, .int .i64 cn, .string ct] 48)
  have X2 := CV.new w1 cu cn ct
  rw [hgc] at X2
  have B2 := Lib.hid (up B1.out b2)
  have V2 := Lib.hid (V1.out.later b2)
  have HX2 := Lib.hid X2
  obtain ⟨t0, t1⟩ := V2.out.lie
  obtain ⟨x0, x1, x2⟩ := X2.lie
  simp only at x0 x1 x2
  clear b1 b2 X2 hd ci cs
  unfold cv
  simp only
  by_cases he : e0 = 0
  · subst he
    obtain ⟨h1, h2, h3, h4⟩ : Cl.may k = true ∧ Cl.of u k ⟨cu, cn, ct⟩ = true ∧ Cl.I64 cn ∧ Cl.txt k ⟨cu, cn, ct⟩ = s2 := by
      rcases HD.out with ⟨h, _⟩ | ⟨h1, _, h3, h4, h5⟩ | ⟨_, h, _⟩
      · cases h
      · exact ⟨h1, h3, h4, h5⟩
      · cases h
    have hc : Cl.chk u k ⟨cu, cn, ct⟩ = 0 := by unfold Cl.chk; rw [h1, h2]; rfl
    have hsz : ct.size ≤ 1000000 := Nat.le_trans HI.out.2 (by decide)
    have CT := Lib.hid (fun w1 (hb : Below w.heap.size w w1) => texts u k ⟨cu, cn, ct⟩ w1 (TW.out w1 hb) h3 hsz 0 hc s2 (by rw [if_pos rfl]; exact h4))
    have CC := Lib.hid (fun w1 (hb : Below w.heap.size w w1) => checks u k ⟨cu, cn, ct⟩ w1 (TW.out w1 hb) h3 hsz 0 hc)
    have hqq : (s2.toList == s2.toList) = true := by simp
    unfold tv cv at CT CC
    simp only at CT CC
    clear h1 h2 h3 h4 hc hsz
    go_wp2_with fail
    ((with_reducible refine (CT.out _ B2.out).mono ?_); rintro e w3 ⟨rfl, b3⟩)
    have B3 := Lib.hid (up B2.out b3)
    have V3 := Lib.hid (V2.out.later b3)
    have HX3 := Lib.hid (HX2.out.later b3)
    clear x0 x1 x2 t0 t1
    obtain ⟨t0, t1⟩ := V3.out.lie
    obtain ⟨x0, x1, x2⟩ := HX3.out.lie
    simp only at x0 x1 x2
    clear b3
    go_wp2_with fail
    ((with_reducible refine (CC.out _ B3.out).mono ?_); rintro e w4 ⟨rfl, b4⟩)
    have B4 := Lib.hid (up B3.out b4)
    have V4 := Lib.hid (V3.out.later b4)
    clear x0 x1 x2 t0 t1
    obtain ⟨t0, t1⟩ := V4.out.lie
    clear b4
    go_wp2_with fail
    ((with_reducible refine (CU.out _ B4.out).mono ?_); rintro e wU ⟨rfl, bU⟩)
    have BU := Lib.hid (up B4.out bU)
    have VU1 := Lib.hid (V4.out.later bU)
    obtain ⟨du, dn, dt⟩ := d
    obtain ⟨gd, hgd⟩ : ∃ n, wU.heap.size = n := ⟨_, rfl⟩
    have b5 := box_new wU (.cells #[.bool du, .int .i64 dn, .string dt] 48)
    have X5 := CV.new wU du dn dt
    rw [hgd] at X5
    have B5 := Lib.hid (up BU.out b5)
    have V5 := Lib.hid (VU1.out.later b5)
    obtain ⟨p0, p1⟩ := V5.out.lie
    obtain ⟨z0, z1, z2⟩ := X5.lie
    simp only at z0 z1 z2
    clear bU b5 X5
    unfold cv
    simp only
    by_cases hg : g = 0
    · subst hg
      obtain ⟨h1, h2, h3, h4, h5⟩ := Cl.unb_good u k (bl s2) (bl_byte s2) _ n UR.out
      rw [bl_length] at h4
      obtain ⟨y, hy⟩ : ∃ y, s2.extract 0 n = y := ⟨_, rfl⟩
      have hye : str (Cl.bts u k ⟨du, dn, dt⟩) = y := by
        rw [← hy, ← h5]; apply bl_inj
        rw [bl_str _ (fun x hx => bl_byte s2 x (List.mem_of_mem_take hx)), bl_to]
      have hcut : ∀ w, (Instr.slice 9 (.string s2) none (some (.int .i64 (n : Nat))) none).run Tryz.prog w = .ok (.string y) w := fun w => by
        rw [run_slice_string_to_if w 9 s2 .i64 _ Tryz.underlying9, if_pos (by omega), ← hy]; rfl
      have hyy : (y.toList == y.toList) = true := by simp
      have hc : Cl.chk u k ⟨du, dn, dt⟩ = 0 := by unfold Cl.chk; rw [h1, h2]; rfl
      have hsz : dt.size ≤ 1000000 := by
        have h6 := (isK_dt h2)
        simp only at h6
        omega
      have CB := Lib.hid (fun w1 (hb : Below w.heap.size w w1) => bitss u k ⟨du, dn, dt⟩ w1 (TW.out w1 hb) h3 hsz 0 hc y (by rw [if_pos rfl]; exact hye))
      have hn2 : (n : Int) ≤ (s2.size : Int) := by omega
      unfold tv cv at CB
      simp only at CB
      clear hy hye hc h1 h2 h3 h5 hsz
      go_wp2_with fail
      ((with_reducible refine (CB.out _ B5.out).mono ?_); rintro e w6 ⟨rfl, b6⟩)
      have B6 := Lib.hid (up B5.out b6)
      clear b6
      go_wp2_with fail
      ((with_reducible refine (CW.out _ B6.out).mono ?_); rintro e w7 ⟨rfl, b7⟩)
      have B7 := Lib.hid (up B6.out b7)
      clear b7
      go_wp2_with fail
      go_ret
      exact ⟨rfl, B7.out⟩
    · obtain ⟨h1, h2⟩ := Cl.unb_err u k (bl s2) _ n g UR.out hg
      have hg2 : ((g : Int) != 0) = true := by simp; omega
      have HG := Lib.hid hg
      subst h2
      have HE := fun w => run_eqc ⟨du, dn, dt⟩ ⟨false, 0, ⟨#[]⟩⟩ w
      rw [h1, show (⟨false, 0, ⟨#[]⟩⟩ : Cl.C) = Cl.empty from rfl, eqc_self] at HE
      unfold Cl.empty at h1
      injection h1 with e1 e2 e3
      subst e1; subst e2; subst e3
      unfold cv Cl.empty at HE
      simp only at HE
      clear hg
      go_wp2_with fail
      ((with_reducible refine (CW.out _ B5.out).mono ?_); rintro e w7 ⟨rfl, b7⟩)
      have B7 := Lib.hid (up B5.out b7)
      clear b7
      go_wp2_with fail
      go_ret
      exact ⟨rfl, B7.out⟩
  · have he2 : ((e0 : Int) == 0) = false := by simp; omega
    have HE0 := Lib.hid he
    clear he x0 x1 x2
    go_wp2_with fail
    ((with_reducible refine (CU.out _ B2.out).mono ?_); rintro e wU ⟨rfl, bU⟩)
    have BU := Lib.hid (up B2.out bU)
    have VU1 := Lib.hid (V2.out.later bU)
    obtain ⟨du, dn, dt⟩ := d
    obtain ⟨gd, hgd⟩ : ∃ n, wU.heap.size = n := ⟨_, rfl⟩
    have b5 := box_new wU (.cells #[.bool du, .int .i64 dn, .string dt] 48)
    have X5 := CV.new wU du dn dt
    rw [hgd] at X5
    have B5 := Lib.hid (up BU.out b5)
    have V5 := Lib.hid (VU1.out.later b5)
    obtain ⟨p0, p1⟩ := V5.out.lie
    obtain ⟨z0, z1, z2⟩ := X5.lie
    simp only at z0 z1 z2
    clear bU b5 X5
    unfold cv
    simp only
    by_cases hg : g = 0
    · subst hg
      obtain ⟨h1, h2, h3, h4, h5⟩ := Cl.unb_good u k (bl s2) (bl_byte s2) _ n UR.out
      rw [bl_length] at h4
      obtain ⟨y, hy⟩ : ∃ y, s2.extract 0 n = y := ⟨_, rfl⟩
      have hye : str (Cl.bts u k ⟨du, dn, dt⟩) = y := by
        rw [← hy, ← h5]; apply bl_inj
        rw [bl_str _ (fun x hx => bl_byte s2 x (List.mem_of_mem_take hx)), bl_to]
      have hcut : ∀ w, (Instr.slice 9 (.string s2) none (some (.int .i64 (n : Nat))) none).run Tryz.prog w = .ok (.string y) w := fun w => by
        rw [run_slice_string_to_if w 9 s2 .i64 _ Tryz.underlying9, if_pos (by omega), ← hy]; rfl
      have hyy : (y.toList == y.toList) = true := by simp
      have hc : Cl.chk u k ⟨du, dn, dt⟩ = 0 := by unfold Cl.chk; rw [h1, h2]; rfl
      have hsz : dt.size ≤ 1000000 := by
        have h6 := (isK_dt h2)
        simp only at h6
        omega
      have CB := Lib.hid (fun w1 (hb : Below w.heap.size w w1) => bitss u k ⟨du, dn, dt⟩ w1 (TW.out w1 hb) h3 hsz 0 hc y (by rw [if_pos rfl]; exact hye))
      have hn2 : (n : Int) ≤ (s2.size : Int) := by omega
      unfold tv cv at CB
      simp only at CB
      clear hy hye hc h1 h2 h3 h5 hsz
      go_wp2_with fail
      ((with_reducible refine (CB.out _ B5.out).mono ?_); rintro e w6 ⟨rfl, b6⟩)
      have B6 := Lib.hid (up B5.out b6)
      clear b6
      go_wp2_with fail
      ((with_reducible refine (CW.out _ B6.out).mono ?_); rintro e w7 ⟨rfl, b7⟩)
      have B7 := Lib.hid (up B6.out b7)
      clear b7
      go_wp2_with fail
      go_ret
      exact ⟨rfl, B7.out⟩
    · obtain ⟨h1, h2⟩ := Cl.unb_err u k (bl s2) _ n g UR.out hg
      have hg2 : ((g : Int) != 0) = true := by simp; omega
      have HG := Lib.hid hg
      subst h2
      have HE := fun w => run_eqc ⟨du, dn, dt⟩ ⟨false, 0, ⟨#[]⟩⟩ w
      rw [h1, show (⟨false, 0, ⟨#[]⟩⟩ : Cl.C) = Cl.empty from rfl, eqc_self] at HE
      unfold Cl.empty at h1
      injection h1 with e1 e2 e3
      subst e1; subst e2; subst e3
      unfold cv Cl.empty at HE
      simp only at HE
      clear hg
      go_wp2_with fail
      ((with_reducible refine (CW.out _ B5.out).mono ?_); rintro e w7 ⟨rfl, b7⟩)
      have B7 := Lib.hid (up B5.out b7)
      clear b7
      go_wp2_with fail
      go_ret
      exact ⟨rfl, B7.out⟩
end Go.Proofs.YtffdgcdmbccodaaGreatDoor
