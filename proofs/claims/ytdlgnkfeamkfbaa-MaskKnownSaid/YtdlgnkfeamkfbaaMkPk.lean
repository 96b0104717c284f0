/- The walks of MaskPacks and MaskJoins. -/
import Derived.Test.YtdlgnkfeamkfbaaMkRd
namespace Go.Proofs.Ytdlgnkfeamkfbaa
open Go.RowKit
set_option linter.unusedVariables false
set_option maxRecDepth 100000

theorem not8 : ∀ d : Fin 256, bits BinOp.xor IntKind.u8 (if IntKind.u8.signed = true then -1 else IntKind.u8.max) (d.val : Int) = ((255 - d.val : Nat) : Int) := by decide +kernel
set_option maxHeartbeats 4000000 in
theorem maskPacks (v : Value) (l : List Bool) (z : Int) (w : World) (h : RdB w w.heap.size v l) (z0 : -9223372036854775808 ≤ z) (z1 : z ≤ 9223372036854775807) :
    Calls Try.prog 3 #[v, .int .i64 z] w fun e w' => e = .returned (.bool true) ∧ Below w.heap.size w w' := by
  have HV := Lib.hid h
  obtain ⟨sz, hsz⟩ : ∃ s, szP z = s := ⟨_, rfl⟩
  have HSZ := Lib.hid hsz
  clear hsz
  go_enter Try.func3, Try.ntmps3
  go_wp2_with fail
  refine (cutB v l _ h).mono ?_
  rintro e w1 ⟨r1, rfl, o1, b1⟩
  have hml : (l.take 300).length ≤ 300 := by rw [List.length_take]; omega
  obtain ⟨m, hm⟩ : ∃ m, l.take 300 = m := ⟨_, rfl⟩
  have HM := Lib.hid hm
  rw [hm] at o1 hml
  obtain ⟨a1, c1, rfl⟩ := o1.form0
  have O1 := Lib.hid (RdB.of o1)
  have B1 := Lib.hid b1
  clear o1 b1 h hm
  go_wp2_with fail
  refine (pack _ m _ O1.out (by omega)).mono ?_
  rintro e w2 ⟨r2, rfl, o2, b2⟩
  obtain ⟨s, hs⟩ : ∃ s, Mk.sz m.length = s := ⟨_, rfl⟩
  have HRP := Lib.hid (rpack _ m w2 (O1.out.later b2) (by omega))
  rw [hs] at o2 HRP
  have hs2 : s ≤ 100 := by rw [← hs]; unfold Mk.sz; omega
  have hpl := Mk.pk_len s m
  have O2 := Lib.hid o2
  have B2 := Lib.hid b2
  clear o2 b2 hs
  go_wp2_with fail
  refine HRP.out.mono ?_
  rintro e w3 ⟨r3, rfl, o3, b3⟩
  have O3 := Lib.hid (Own.later O2.out b3)
  have R3 := Lib.hid o3.rd
  have B3 := Lib.hid (up B2.out b3)
  clear O2 B2 o3 b3 HRP
  go_wp2_with fail
  refine (eq_yes _ _ _ _ _ O3.out.rd R3.out rfl).mono ?_
  rintro e w' ⟨rfl, rfl⟩
  generalize Mk.pk s m = P at *
  obtain ⟨a2, c2, rfl, hc2⟩ := O3.out.form1
  rw [hpl] at O3 hc2 ⊢
  clear R3
  go_wp2
  go_loopw [8] (fun i wr => ∃ (k : Nat) (D : List Nat), k ≤ s ∧ i = .int .i64 (k : Nat) ∧ D.length = s ∧ Hid (Own wr w1.heap.size (.slice a2 s c2) D) ∧ Hid (Below w1.heap.size w1 wr)) (fun i _ => s - (intOf i).toNat)
  case atStart => exact ⟨0, P, by omega, rfl, hpl, O3, B3⟩
  case round =>
    clear O3 B3
    obtain ⟨k, D, hk, rfl, hD, HO, HB⟩ := hrel
    by_cases hlt : k < s
    · have hlt1 : (k : Int) < (s : Int) := by omega
      obtain ⟨g, cap, e2, hg, hc3, hc4⟩ := HO.out.form (by omega)
      rw [hD] at e2
      injection e2 with e3 e4 e5
      subst e3 e5
      obtain ⟨q1, q2⟩ := HO.out.cell hD k hlt
      have qf := HO.out.melt hD k
      have hst := Lib.hid (fun x hx => HO.out.stored hD k x hx)
      generalize D.getD k 0 = d at *
      have HX := Lib.hid (not8 ⟨d, q2⟩)
      have HO2 := Lib.hid (hst.out (255 - d) (by omega))
      have HB2 := Lib.hid (HB.out.setCell (p := ⟨g, k, none⟩) hg (.int .u8 ((255 - d : Nat) : Int)))
      have hl2 : (D.set k (255 - d)).length = s := by rw [List.length_set, hD]
      clear hst HO HB
      go_wp2
      rw [HX.out]
      go_roundw
      case rel => exact ⟨k + 1, D.set k (255 - d), by omega, by go_num, hl2, HO2, HB2⟩
      case measure => simp [intOf]; omega
    · obtain rfl : k = s := by omega
      have hlt1 : ¬ (k : Int) < (k : Int) := by omega
      have HW := Lib.hid (up B1.out HB.out)
      have HVR := Lib.hid (Gn.Rd.later HV.out HW.out)
      have HMR := Lib.hid (Gn.Rd.later O1.out HB.out)
      clear HO HB O1 B1 HV
      go_wp2_with fail
      refine (cutB v l _ HVR.out).mono ?_
      rintro e w5 ⟨r5, rfl, o5, b5⟩
      rw [HM.out] at o5
      have HS := Lib.hid (same _ r5 m m w5 (Gn.Rd.later HMR.out b5) (RdB.of o5) true (by simp))
      have HM5 := Lib.hid (Gn.Rd.later HMR.out b5)
      have HW5 := Lib.hid (up HW.out b5)
      clear HW HVR HMR o5 b5
      go_wp2_with fail
      refine HS.out.mono ?_
      rintro e w6 ⟨rfl, b6⟩
      have HM6 := Lib.hid (Gn.Rd.later HM5.out b6)
      have HW6 := Lib.hid (up HW5.out b6)
      clear HS HM5 HW5 b6
      go_wp2_with fail
      refine (count _ m _ HM6.out _ rfl).mono ?_
      rintro e w' ⟨rfl, rfl⟩
      go_wp2_with fail
      refine (rcount _ m _ HM6.out _ rfl).mono ?_
      rintro e w' ⟨rfl, rfl⟩
      generalize Mk.cnt m = q at *
      go_wp2_with fail
      refine (size z _ _ HSZ.out).mono ?_
      rintro e w' ⟨rfl, rfl⟩
      go_wp2_with fail
      refine (rsize z _ _ HSZ.out).mono ?_
      rintro e w' ⟨rfl, rfl⟩
      go_wp2_with fail
      refine (works _).mono ?_
      rintro e w7 ⟨rfl, b7⟩
      go_wp2
      go_ret
      exact ⟨rfl, up HW6.out b7⟩
theorem cnt_take_le (m : List Bool) (h : m.length ≤ 300) : Mk.cnt m ≤ 300 := by have := Mk.cnt_le m; omega
set_option maxHeartbeats 4000000 in
theorem maskJoins (v : Value) (l : List Bool) (v2 : Value) (l2 : List Bool) (w : World) (h : RdB w w.heap.size v l) (h2 : RdB w w.heap.size v2 l2) :
    Calls Try.prog 7 #[v, v2] w fun e w' => e = .returned (.bool true) ∧ Below w.heap.size w w' := by
  have HV2 := Lib.hid h2
  clear h2
  go_enter Try.func7, Try.ntmps7
  go_wp2_with fail
  refine (cutB v l _ h).mono ?_
  rintro e w1 ⟨r1, rfl, o1, b1⟩
  have hml : (l.take 300).length ≤ 300 := by rw [List.length_take]; omega
  generalize l.take 300 = m at *
  have O1 := Lib.hid (RdB.of o1)
  have B1 := Lib.hid b1
  have V21 := Lib.hid (Gn.Rd.later HV2.out b1)
  clear o1 b1 h HV2
  go_wp2_with fail
  refine (cutB v2 l2 _ V21.out).mono ?_
  rintro e w2 ⟨r2, rfl, o2, b2⟩
  have hml2 : (l2.take 300).length ≤ 300 := by rw [List.length_take]; omega
  generalize l2.take 300 = m2 at *
  have O12 := Gn.Rd.later O1.out b2
  have O2 := Lib.hid (RdB.of o2)
  have B2 := Lib.hid (up B1.out b2)
  obtain ⟨a1, c1, rfl, _⟩ := Gn.Rd.form O1.out
  obtain ⟨q, hq⟩ : ∃ q, m.length / 8 = q := ⟨_, rfl⟩
  obtain ⟨N, hN⟩ : ∃ N, 8 * q = N := ⟨_, rfl⟩
  obtain ⟨u, hu, hr⟩ := Gn.cut_to ebY w2 w2.heap.size a1 m m.length c1 N O12 rfl (by omega)
  have e1 : (m.length : Int) / 8 = (q : Int) := by omega
  have e2 : (q : Int) * 8 = (N : Int) := by omega
  have hul : (m.take N).length = 8 * q := by rw [List.length_take]; omega
  have HR := Lib.hid hr
  clear O1 V21 O12 o2 b2 B1 hr hq
  generalize m.take N = A at *
  have HE := Lib.hid (Gn.Own.lit (T := 4) ebL w2 w2.heap.size [] #[] 0 0 rfl rfl rfl (by simp) (Nat.le_refl _))
  have hAl : Hid (A.length ≤ 300 ∧ m2.length ≤ 300) := Lib.hid ⟨by omega, hml2⟩
  go_wp2_with (at_builtin
               first
               | (refine Gn.wpList_app ebL ebY rfl (.tmp 20) (.tmp 21) rfl w2.heap.size _ _ rfl HO3.out r2 m2 rfl (Gn.Rd.later O2.out HB3.out) (by have := hAl.out; simp; omega) HB3.out.size ?_
                  intro y4 w4 ho4 hg4 hl4 hn4
                  have HO4 := Lib.hid ho4
                  have HB4 := Lib.hid (HB3.out.trans (Gn.below_of_own HO3.out hg4 HB3.out.size))
                  clear ho4 hg4 hl4 hn4)
               | (refine Gn.wpList_app ebL ebY rfl (.tmp 18) (.tmp 19) rfl w2.heap.size _ [] rfl HE.out u A rfl (Gn.Rd.later HR.out (up_new _ _)) (by have := hAl.out; simp; omega) (by simp) ?_
                  intro y3 w3 ho3 hg3 hl3 hn3
                  have HO3 := Lib.hid ho3
                  have HB3 := Lib.hid ((up_new w2 _).trans (Gn.below_of_own HE.out hg3 (by simp)))
                  clear ho3 hg3 hl3 hn3))
  have hAs : Mk.sz A.length = q := by unfold Mk.sz; omega
  obtain ⟨sm, hsm⟩ : ∃ s, Mk.sz m2.length = s := ⟨_, rfl⟩
  have hbs : Mk.sz (A ++ m2).length = q + sm := by rw [← hsm, List.length_append, hul]; unfold Mk.sz; omega
  have HPA := Lib.hid (Mk.pk_app q sm A m2 hul)
  have hbl := Lib.hid (show (A ++ m2).length ≤ 2000000 by rw [List.length_append]; omega)
  have HY : Hid (OwnB w4 w2.heap.size y4 (A ++ m2)) := Lib.hid (by have := HO4.out; rwa [List.nil_append] at this)
  have HR4 := Lib.hid (Gn.Rd.later HR.out HB4.out)
  have HM4 := Lib.hid (Gn.Rd.later O2.out HB4.out)
  have HW4 := Lib.hid (up B2.out HB4.out)
  have hlA : A.length ≤ 2000000 := by omega
  clear HO4 HB4 HO3 HB3 HE HR O2 B2 hu
  refine (pack y4 _ _ (RdB.of HY.out) hbl.out).mono ?_
  rintro e w5 ⟨r5, rfl, o5, b5⟩
  rw [hbs] at o5
  have O5 := Lib.hid o5.rd
  have HY5 := Lib.hid (RdB.of (Gn.Own.later HY.out b5))
  have HR5 := Lib.hid (Gn.Rd.later HR4.out b5)
  have HM5 := Lib.hid (Gn.Rd.later HM4.out b5)
  have HW5 := Lib.hid (up HW4.out b5)
  clear o5 b5 HY HR4 HM4 HW4 hbs hbl
  go_wp2_with fail
  refine (pack u A _ HR5.out hlA).mono ?_
  rintro e w6 ⟨r6, rfl, o6, b6⟩
  rw [hAs] at o6
  have O6 := Lib.hid o6
  have HM6 := Lib.hid (Gn.Rd.later HM5.out b6)
  have B6 := Lib.hid b6
  clear o6 b6 hAs
  go_wp2_with fail
  refine (pack r2 m2 _ HM6.out (by omega)).mono ?_
  rintro e w7 ⟨r7, rfl, o7, b7⟩
  rw [hsm] at o7
  have O7 := Lib.hid o7.rd
  have O67 := Lib.hid (Own.later O6.out b7)
  have B7 := Lib.hid (up B6.out b7)
  have HLN : Hid ((Mk.pk q A).length + (Mk.pk sm m2).length ≤ 1000000000) := Lib.hid (by rw [Mk.pk_len, Mk.pk_len, ← hsm]; unfold Mk.sz; omega)
  clear o7 b7 HM6 O6 B6 hsm
  go_wp2_with (at_builtin
               refine wpList_app rfl (.tmp 26) (.tmp 28) rfl w5.heap.size _ _ rfl O67.out _ (Mk.pk sm m2) rfl O7.out HLN.out B7.out.size ?_
               intro r8 w8 o8 b8
               have O8 := Lib.hid o8.rd
               have B8 := Lib.hid (B7.out.trans b8)
               clear o8 b8)
  have R58 := Lib.hid (O5.out.later (Nat.le_refl _) B8.out)
  have Y8 := Lib.hid (Gn.Rd.later HY5.out B8.out)
  have U8 := Lib.hid (Gn.Rd.later HR5.out B8.out)
  have M8 := Lib.hid (Gn.Rd.later HM5.out B8.out)
  have W8 := Lib.hid (up HW5.out B8.out)
  obtain ⟨x1, hx1⟩ : ∃ x, Mk.cnt A = x := ⟨_, rfl⟩
  obtain ⟨x2, hx2⟩ : ∃ x, Mk.cnt m2 = x := ⟨_, rfl⟩
  have l1 := Mk.cnt_le A
  have l2' := Mk.cnt_le m2
  have HX := Lib.hid (show Mk.cnt (A ++ m2) = x1 + x2 by rw [Mk.cnt_app, hx1, hx2])
  have HX1 := Lib.hid hx1
  have HX2 := Lib.hid hx2
  rw [hx1] at l1
  rw [hx2] at l2'
  clear hx1 hx2 O67 O7 HLN B7 HY5 HR5 HM5 HW5 O5
  refine (eq_yes _ _ _ _ _ R58.out O8.out HPA.out).mono ?_
  rintro e w' ⟨rfl, rfl⟩
  go_wp2_with fail
  refine (count y4 _ _ Y8.out _ HX.out).mono ?_
  rintro e w' ⟨rfl, rfl⟩
  go_wp2_with fail
  refine (count u _ _ U8.out _ HX1.out).mono ?_
  rintro e w' ⟨rfl, rfl⟩
  go_wp2_with fail
  refine (count r2 _ _ M8.out _ HX2.out).mono ?_
  rintro e w' ⟨rfl, rfl⟩
  go_wp2_with fail
  refine (works _).mono ?_
  rintro e w9 ⟨rfl, b9⟩
  go_wp2
  go_ret
  exact ⟨rfl, up W8.out b9⟩
end Go.Proofs.Ytdlgnkfeamkfbaa
