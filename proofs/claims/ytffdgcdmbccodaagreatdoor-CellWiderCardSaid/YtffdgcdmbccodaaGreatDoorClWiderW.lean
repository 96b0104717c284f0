/- CellWider's walk: a number of 32 bits is written as one of 64; the zero of a type. -/
import Derived.Test.YtffdgcdmbccodaaGreatDoorClWork
import Derived.Deep.RegionHeld3
namespace Go.Proofs.YtffdgcdmbccodaaGreatDoor
open Go.RowKit
set_option linter.unusedVariables false
set_option maxRecDepth 100000

theorem wide_isK (n : Int) (b : Bool) (hb : (decide (-2147483648 ≤ n) && decide (n < 2147483648)) = b) : Cl.isK 2 ⟨false, n, ⟨#[]⟩⟩ = b := by
  subst hb
  show (!false && (if (2 : Int) = 1 then _ else if (2 : Int) = 2 then decide (bl ⟨#[]⟩ = []) && decide (-2147483648 ≤ n ∧ n ≤ 2147483647) else _)) = _
  rw [if_neg (by decide), if_pos rfl]
  have : bl ⟨#[]⟩ = [] := by decide
  rw [this]
  by_cases h1 : -2147483648 ≤ n <;> by_cases h2 : n < 2147483648 <;> by_cases h3 : n ≤ 2147483647 <;> simp [h1, h2, h3] <;> omega
theorem wide_chk2 (u : Bool) (n : Int) (b : Bool) (hb : (decide (-2147483648 ≤ n) && decide (n < 2147483648)) = b) : Cl.chk u 2 ⟨false, n, ⟨#[]⟩⟩ = if b = true then 0 else 90 := by
  unfold Cl.chk Cl.of Cl.none?
  rw [wide_isK n b hb]
  cases u <;> cases b <;> rfl
theorem wide_chk3 (u : Bool) (n : Int) : Cl.chk u 3 ⟨false, n, ⟨#[]⟩⟩ = 0 := by
  cases u <;> rfl
theorem wide_no (u : Bool) (k : Int) (c : Cl.C) (h : Cl.may k = false) : Cl.chk u k c = 2 := by unfold Cl.chk; rw [if_pos h]
theorem wide_zero (u : Bool) (k : Int) (h : Cl.may k = true) : Cl.chk u k ⟨u, 0, ⟨#[]⟩⟩ = 0 := by
  obtain ⟨h1, h2⟩ := Cl.may_le h
  have : k = 1 ∨ k = 2 ∨ k = 3 ∨ k = 4 ∨ k = 5 := by omega
  rcases this with rfl | rfl | rfl | rfl | rfl <;> cases u <;> decide +kernel
set_option maxHeartbeats 8000000 in
theorem cellWider (u : Bool) (k : Int) (n : Int) (w : World) (hk : Cl.I64 k) (hi : Cl.I64 n) (T : TA w) : Calls Tryz.prog 15 #[tv u k, .int .i64 n] w fun e w' => e = .returned (.bool true) ∧ Below w.heap.size w w' := by
  have B0 := Lib.hid (BX.start w u k ⟨false, n, ⟨#[]⟩⟩)
  have TW := Lib.hid (fun w1 (hb : Below w.heap.size w w1) => T.later hb)
  have CW := Lib.hid (fun w1 (hb : Below w.heap.size w w1) => works w1 (TW.out w1 hb))
  obtain ⟨b, hb⟩ : ∃ b, (decide (-2147483648 ≤ n) && decide (n < 2147483648)) = b := ⟨_, rfl⟩
  obtain ⟨m, hm⟩ : ∃ m, Cl.may k = m := ⟨_, rfl⟩
  obtain ⟨p, hp⟩ : ∃ p, Cl.txt 3 ⟨false, n, ⟨#[]⟩⟩ = p := ⟨_, rfl⟩
  obtain ⟨y, hy⟩ : ∃ y, str (Cl.bts u 3 ⟨false, n, ⟨#[]⟩⟩) = y := ⟨_, rfl⟩
  have CM := Lib.hid (fun w1 (hb : Below w.heap.size w w1) => cMay u k w1 m hm)
  have H2 := wide_chk2 u n b hb
  have CB3 := Lib.hid (fun w1 (hb : Below w.heap.size w w1) => bitss u 3 ⟨false, n, ⟨#[]⟩⟩ w1 (TW.out w1 hb) hi (show (⟨#[]⟩ : ByteArray).size ≤ 1000000 by decide) 0 (wide_chk3 u n) y (by rw [if_pos rfl]; exact hy))
  have CT3 := Lib.hid (fun w1 (hb : Below w.heap.size w w1) => texts u 3 ⟨false, n, ⟨#[]⟩⟩ w1 (TW.out w1 hb) hi (show (⟨#[]⟩ : ByteArray).size ≤ 1000000 by decide) 0 (wide_chk3 u n) p (by rw [if_pos rfl]; exact hp))
  obtain ⟨x2, e2, p2, q2, hx2⟩ : ∃ x2 e2 p2, ∃ q2 : (e2 = if b = true then 0 else 90), (b = true → x2 = y ∧ p2 = p) ∧
      (∀ w1, Below w.heap.size w w1 → Calls Tryz.prog 39 #[tv u 2, cv ⟨false, n, ⟨#[]⟩⟩] w1 fun e w' => e = .returned (.tuple #[.string x2, .int .i64 (e2 : Nat)]) ∧ Below w1.heap.size w1 w') ∧
      (∀ w1, Below w.heap.size w w1 → Calls Tryz.prog 37 #[tv u 2, cv ⟨false, n, ⟨#[]⟩⟩] w1 fun e w' => e = .returned (.tuple #[.string p2, .int .i64 (e2 : Nat)]) ∧ Below w1.heap.size w1 w') := by
    refine ⟨_, _, _, rfl, ?_, fun w1 h1 => bitss u 2 ⟨false, n, ⟨#[]⟩⟩ w1 (TW.out w1 h1) hi (show (⟨#[]⟩ : ByteArray).size ≤ 1000000 by decide) _ H2 _ rfl, fun w1 h1 => texts u 2 ⟨false, n, ⟨#[]⟩⟩ w1 (TW.out w1 h1) hi (show (⟨#[]⟩ : ByteArray).size ≤ 1000000 by decide) _ H2 _ rfl⟩
    intro h
    subst h
    exact ⟨hy, hp⟩
  obtain ⟨hx, hB, hT⟩ := hx2
  have Q2 := Lib.hid q2
  clear q2
  have CB2 := Lib.hid hB
  have CT2 := Lib.hid hT
  have CC := Lib.hid (fun (h : m = false) w1 (hb : Below w.heap.size w w1) => checks u k ⟨false, n, ⟨#[]⟩⟩ w1 (TW.out w1 hb) hi (show (⟨#[]⟩ : ByteArray).size ≤ 1000000 by decide) 2 (wide_no u k _ (hm.trans h)))
  have CZ := Lib.hid (fun w1 (hb : Below w.heap.size w w1) => cZero u k w1 _ rfl)
  have CE := Lib.hid (fun (h : m = true) w1 (hb : Below w.heap.size w w1) => checks u k ⟨u, 0, ⟨#[]⟩⟩ w1 (TW.out w1 hb) (show Cl.I64 0 from ⟨by decide, by decide⟩) (show (⟨#[]⟩ : ByteArray).size ≤ 1000000 by decide) 0 (wide_zero u k (hm.trans h)))
  rw [hm] at CZ
  unfold tv cv at CB3 CT3 CB2 CT2 CC CE CZ
  unfold tv at CM ⊢
  simp only at B0
  clear hB hT hp hy H2 T hk hi hm
  have hb1 : ∀ h : b = true, decide (-2147483648 ≤ n) = true ∧ decide (n < 2147483648) = true := fun h => by rw [h] at hb; simpa using hb
  obtain ⟨⟨t0, t1⟩, ⟨c0, c1, c2⟩⟩ := B0.out.lies
  simp only at c0 c1 c2
  go_enter Tryz.func15, Tryz.ntmps15
  go_wp2_with fail
  ((with_reducible refine (CB2.out _ B0.out.b).mono ?_); rintro e w1 ⟨rfl, b1⟩)
  have B1 := Lib.hid (B0.out.later b1)
  clear t0 t1 c0 c1 c2 b1 B0
  obtain ⟨⟨t0, t1⟩, ⟨c0, c1, c2⟩⟩ := B1.out.lies
  simp only at c0 c1 c2
  go_wp2_with fail
  ((with_reducible refine (CB3.out _ B1.out.b).mono ?_); rintro e w2 ⟨rfl, b2⟩)
  have B2 := Lib.hid (B1.out.later b2)
  clear t0 t1 c0 c1 c2 b2 B1
  obtain ⟨⟨t0, t1⟩, ⟨c0, c1, c2⟩⟩ := B2.out.lies
  simp only at c0 c1 c2
  go_wp2_with fail
  ((with_reducible refine (CT2.out _ B2.out.b).mono ?_); rintro e w3 ⟨rfl, b3⟩)
  have B3 := Lib.hid (B2.out.later b3)
  clear t0 t1 c0 c1 c2 b3 B2
  obtain ⟨⟨t0, t1⟩, ⟨c0, c1, c2⟩⟩ := B3.out.lies
  simp only at c0 c1 c2
  go_wp2_with fail
  ((with_reducible refine (CT3.out _ B3.out.b).mono ?_); rintro e w4 ⟨rfl, b4⟩)
  have B4 := Lib.hid (B3.out.later b4)
  clear t0 t1 c0 c1 c2 b4 B3
  obtain ⟨⟨t0, t1⟩, ⟨c0, c1, c2⟩⟩ := B4.out.lies
  simp only at c0 c1 c2
  by_cases hbb : b = true
  · obtain ⟨d1, d2⟩ := hb1 hbb
    obtain ⟨rfl, rfl⟩ := hx hbb
    have q2 := Q2.out; rw [if_pos hbb] at q2; clear Q2
    subst q2
    subst hbb
    have hyy : (x2.toList == x2.toList) = true := by simp
    have hpp : (p2.toList == p2.toList) = true := by simp
    clear hb1 hx
    by_cases hm : m = true
    rotate_left
    · have hm : m = false := by cases m <;> simp at hm ⊢
      have C5 := Lib.hid (CC.out hm)
      subst hm
      rw [Bool.and_false] at CZ
      have HQ := fun w => run_eqc ⟨false, 0, ⟨#[]⟩⟩ ⟨false, 0, ⟨#[]⟩⟩ w
      rw [eqc_dec ⟨false, 0, ⟨#[]⟩⟩ ⟨false, 0, ⟨#[]⟩⟩ true (by simp)] at HQ
      unfold cv at HQ
      simp only at HQ
      go_wp2_with fail
      ((with_reducible refine (CM.out _ B4.out.b).mono ?_); rintro e w5 ⟨rfl, b5⟩)
      have B5 := Lib.hid (B4.out.later b5)
      clear t0 t1 c0 c1 c2 b5 B4
      obtain ⟨⟨t0, t1⟩, ⟨c0, c1, c2⟩⟩ := B5.out.lies
      simp only at c0 c1 c2
      go_wp2_with fail
      ((with_reducible refine (CZ.out _ B5.out.b).mono ?_); rintro e w6 ⟨rfl, b6⟩)
      have B6 := Lib.hid (B5.out.later b6)
      clear t0 t1 c0 c1 c2 b6 B5
      obtain ⟨⟨t0, t1⟩, ⟨c0, c1, c2⟩⟩ := B6.out.lies
      simp only at c0 c1 c2
      go_wp2_with fail
      ((with_reducible refine (C5.out _ B6.out.b).mono ?_); rintro e w7 ⟨rfl, b7⟩)
      have B7 := Lib.hid (B6.out.later b7)
      clear t0 t1 c0 c1 c2 b7 B6
      obtain ⟨⟨t0, t1⟩, ⟨c0, c1, c2⟩⟩ := B7.out.lies
      simp only at c0 c1 c2
      go_wp2_with fail
      ((with_reducible refine (CW.out _ B7.out.b).mono ?_); rintro e w8 ⟨rfl, b8⟩)
      have B8 := Lib.hid (up B7.out.b b8)
      clear b8
      go_wp2_with fail
      go_ret
      exact ⟨rfl, B8.out⟩
    · have CF := Lib.hid (CE.out hm)
      subst hm
      rw [Bool.and_true] at CZ
      have huu : (u == u) = true := by simp
      go_wp2_with fail
      ((with_reducible refine (CM.out _ B4.out.b).mono ?_); rintro e w5 ⟨rfl, b5⟩)
      have B5 := Lib.hid (B4.out.later b5)
      clear t0 t1 c0 c1 c2 b5 B4
      obtain ⟨⟨t0, t1⟩, ⟨c0, c1, c2⟩⟩ := B5.out.lies
      simp only at c0 c1 c2
      go_wp2_with fail
      have BA := Lib.hid B5.out.b
      have SK := Lib.hid (fun w1 (hb : Below w5.heap.size w5 w1) => (⟨hb, (B5.out.later hb).t.lie⟩ : Below w5.heap.size w5 w1 ∧ _))
      have C1 := Lib.hid (fun w1 (hb : Below w5.heap.size w5 w1) => (CZ.out w1 (up BA.out hb)).mono (fun e w' h => (⟨h.1, up hb h.2⟩ : e = _ ∧ Below w5.heap.size w5 w')))
      have C2 := Lib.hid (fun w1 (hb : Below w5.heap.size w5 w1) => (CF.out w1 (up BA.out hb)).mono (fun e w' h => (⟨h.1, up hb h.2⟩ : e = _ ∧ Below w5.heap.size w5 w')))
      have C3 := Lib.hid (fun w1 (hb : Below w5.heap.size w5 w1) => (CW.out w1 (up BA.out hb)).mono (fun e w' h => (⟨h.1, up hb h.2⟩ : e = _ ∧ Below w5.heap.size w5 w')))
      have hf : ∀ w, (Instr.field 48 (.agg #[.bool u, .int .i64 0, .string ⟨#[]⟩]) 0).run Tryz.prog w = .ok (.bool u) w := fun _ => by kernel_rfl
      clear c0 c1 c2
      go_region_held3 (fun w' => Below w5.heap.size w5 w' ∧ (w'.cell? ⟨w.heap.size, 0, none⟩ = some (.int .i64 k) ∧ w'.cell? ⟨w.heap.size, 1, none⟩ = some (.bool u)))
        (first | exact SK.out _ (Below.refl _ _).drew | exact SK.out _ (Below.refl _ _) | exact SK.out _ HA.out | fail "keep")
        ((first
          | (go_at_call 32; (with_reducible refine (C1.out _ (Below.refl _ _).drew).mono ?_); rintro e wA ⟨rfl, hA⟩; have HA := Lib.hid hA; clear hA)
          | (go_at_call 32; (with_reducible refine (C1.out _ HA.out).mono ?_); rintro e wA ⟨rfl, hA⟩; have HA := Lib.hid hA; clear hA)
          | (go_at_call 30; (with_reducible refine (C2.out _ HA.out).mono ?_); rintro e wA ⟨rfl, hA⟩; have HA := Lib.hid hA; clear hA)
          | (go_at_call 36; (with_reducible refine (C3.out _ HA.out).mono ?_); rintro e wA ⟨rfl, hA⟩; have HA := Lib.hid hA; clear hA)))
      go_wp2_with fail
      go_ret
      exact ⟨rfl, up BA.out HA.out⟩
  · have hbf : b = false := by cases b <;> simp at hbb ⊢
    subst hbf
    have q2 := Q2.out; rw [if_neg hbb] at q2; clear Q2
    subst q2
    clear hb1 hx hbb
    by_cases d1 : -2147483648 ≤ n
    · have d1 : decide (-2147483648 ≤ n) = true := by simpa using d1
      rw [d1, Bool.true_and] at hb
      by_cases hm : m = true
      rotate_left
      · have hm : m = false := by cases m <;> simp at hm ⊢
        have C5 := Lib.hid (CC.out hm)
        subst hm
        rw [Bool.and_false] at CZ
        have HQ := fun w => run_eqc ⟨false, 0, ⟨#[]⟩⟩ ⟨false, 0, ⟨#[]⟩⟩ w
        rw [eqc_dec ⟨false, 0, ⟨#[]⟩⟩ ⟨false, 0, ⟨#[]⟩⟩ true (by simp)] at HQ
        unfold cv at HQ
        simp only at HQ
        go_wp2_with fail
        ((with_reducible refine (CM.out _ B4.out.b).mono ?_); rintro e w5 ⟨rfl, b5⟩)
        have B5 := Lib.hid (B4.out.later b5)
        clear t0 t1 c0 c1 c2 b5 B4
        obtain ⟨⟨t0, t1⟩, ⟨c0, c1, c2⟩⟩ := B5.out.lies
        simp only at c0 c1 c2
        go_wp2_with fail
        ((with_reducible refine (CZ.out _ B5.out.b).mono ?_); rintro e w6 ⟨rfl, b6⟩)
        have B6 := Lib.hid (B5.out.later b6)
        clear t0 t1 c0 c1 c2 b6 B5
        obtain ⟨⟨t0, t1⟩, ⟨c0, c1, c2⟩⟩ := B6.out.lies
        simp only at c0 c1 c2
        go_wp2_with fail
        ((with_reducible refine (C5.out _ B6.out.b).mono ?_); rintro e w7 ⟨rfl, b7⟩)
        have B7 := Lib.hid (B6.out.later b7)
        clear t0 t1 c0 c1 c2 b7 B6
        obtain ⟨⟨t0, t1⟩, ⟨c0, c1, c2⟩⟩ := B7.out.lies
        simp only at c0 c1 c2
        go_wp2_with fail
        ((with_reducible refine (CW.out _ B7.out.b).mono ?_); rintro e w8 ⟨rfl, b8⟩)
        have B8 := Lib.hid (up B7.out.b b8)
        clear b8
        go_wp2_with fail
        go_ret
        exact ⟨rfl, B8.out⟩
      · have CF := Lib.hid (CE.out hm)
        subst hm
        rw [Bool.and_true] at CZ
        have huu : (u == u) = true := by simp
        go_wp2_with fail
        ((with_reducible refine (CM.out _ B4.out.b).mono ?_); rintro e w5 ⟨rfl, b5⟩)
        have B5 := Lib.hid (B4.out.later b5)
        clear t0 t1 c0 c1 c2 b5 B4
        obtain ⟨⟨t0, t1⟩, ⟨c0, c1, c2⟩⟩ := B5.out.lies
        simp only at c0 c1 c2
        go_wp2_with fail
        have BA := Lib.hid B5.out.b
        have SK := Lib.hid (fun w1 (hb : Below w5.heap.size w5 w1) => (⟨hb, (B5.out.later hb).t.lie⟩ : Below w5.heap.size w5 w1 ∧ _))
        have C1 := Lib.hid (fun w1 (hb : Below w5.heap.size w5 w1) => (CZ.out w1 (up BA.out hb)).mono (fun e w' h => (⟨h.1, up hb h.2⟩ : e = _ ∧ Below w5.heap.size w5 w')))
        have C2 := Lib.hid (fun w1 (hb : Below w5.heap.size w5 w1) => (CF.out w1 (up BA.out hb)).mono (fun e w' h => (⟨h.1, up hb h.2⟩ : e = _ ∧ Below w5.heap.size w5 w')))
        have C3 := Lib.hid (fun w1 (hb : Below w5.heap.size w5 w1) => (CW.out w1 (up BA.out hb)).mono (fun e w' h => (⟨h.1, up hb h.2⟩ : e = _ ∧ Below w5.heap.size w5 w')))
        have hf : ∀ w, (Instr.field 48 (.agg #[.bool u, .int .i64 0, .string ⟨#[]⟩]) 0).run Tryz.prog w = .ok (.bool u) w := fun _ => by kernel_rfl
        clear c0 c1 c2
        go_region_held3 (fun w' => Below w5.heap.size w5 w' ∧ (w'.cell? ⟨w.heap.size, 0, none⟩ = some (.int .i64 k) ∧ w'.cell? ⟨w.heap.size, 1, none⟩ = some (.bool u)))
          (first | exact SK.out _ (Below.refl _ _).drew | exact SK.out _ (Below.refl _ _) | exact SK.out _ HA.out | fail "keep")
          ((first
            | (go_at_call 32; (with_reducible refine (C1.out _ (Below.refl _ _).drew).mono ?_); rintro e wA ⟨rfl, hA⟩; have HA := Lib.hid hA; clear hA)
            | (go_at_call 32; (with_reducible refine (C1.out _ HA.out).mono ?_); rintro e wA ⟨rfl, hA⟩; have HA := Lib.hid hA; clear hA)
            | (go_at_call 30; (with_reducible refine (C2.out _ HA.out).mono ?_); rintro e wA ⟨rfl, hA⟩; have HA := Lib.hid hA; clear hA)
            | (go_at_call 36; (with_reducible refine (C3.out _ HA.out).mono ?_); rintro e wA ⟨rfl, hA⟩; have HA := Lib.hid hA; clear hA)))
        go_wp2_with fail
        go_ret
        exact ⟨rfl, up BA.out HA.out⟩
    · have d1 : decide (-2147483648 ≤ n) = false := by simpa using d1
      by_cases hm : m = true
      rotate_left
      · have hm : m = false := by cases m <;> simp at hm ⊢
        have C5 := Lib.hid (CC.out hm)
        subst hm
        rw [Bool.and_false] at CZ
        have HQ := fun w => run_eqc ⟨false, 0, ⟨#[]⟩⟩ ⟨false, 0, ⟨#[]⟩⟩ w
        rw [eqc_dec ⟨false, 0, ⟨#[]⟩⟩ ⟨false, 0, ⟨#[]⟩⟩ true (by simp)] at HQ
        unfold cv at HQ
        simp only at HQ
        go_wp2_with fail
        ((with_reducible refine (CM.out _ B4.out.b).mono ?_); rintro e w5 ⟨rfl, b5⟩)
        have B5 := Lib.hid (B4.out.later b5)
        clear t0 t1 c0 c1 c2 b5 B4
        obtain ⟨⟨t0, t1⟩, ⟨c0, c1, c2⟩⟩ := B5.out.lies
        simp only at c0 c1 c2
        go_wp2_with fail
        ((with_reducible refine (CZ.out _ B5.out.b).mono ?_); rintro e w6 ⟨rfl, b6⟩)
        have B6 := Lib.hid (B5.out.later b6)
        clear t0 t1 c0 c1 c2 b6 B5
        obtain ⟨⟨t0, t1⟩, ⟨c0, c1, c2⟩⟩ := B6.out.lies
        simp only at c0 c1 c2
        go_wp2_with fail
        ((with_reducible refine (C5.out _ B6.out.b).mono ?_); rintro e w7 ⟨rfl, b7⟩)
        have B7 := Lib.hid (B6.out.later b7)
        clear t0 t1 c0 c1 c2 b7 B6
        obtain ⟨⟨t0, t1⟩, ⟨c0, c1, c2⟩⟩ := B7.out.lies
        simp only at c0 c1 c2
        go_wp2_with fail
        ((with_reducible refine (CW.out _ B7.out.b).mono ?_); rintro e w8 ⟨rfl, b8⟩)
        have B8 := Lib.hid (up B7.out.b b8)
        clear b8
        go_wp2_with fail
        go_ret
        exact ⟨rfl, B8.out⟩
      · have CF := Lib.hid (CE.out hm)
        subst hm
        rw [Bool.and_true] at CZ
        have huu : (u == u) = true := by simp
        go_wp2_with fail
        ((with_reducible refine (CM.out _ B4.out.b).mono ?_); rintro e w5 ⟨rfl, b5⟩)
        have B5 := Lib.hid (B4.out.later b5)
        clear t0 t1 c0 c1 c2 b5 B4
        obtain ⟨⟨t0, t1⟩, ⟨c0, c1, c2⟩⟩ := B5.out.lies
        simp only at c0 c1 c2
        go_wp2_with fail
        have BA := Lib.hid B5.out.b
        have SK := Lib.hid (fun w1 (hb : Below w5.heap.size w5 w1) => (⟨hb, (B5.out.later hb).t.lie⟩ : Below w5.heap.size w5 w1 ∧ _))
        have C1 := Lib.hid (fun w1 (hb : Below w5.heap.size w5 w1) => (CZ.out w1 (up BA.out hb)).mono (fun e w' h => (⟨h.1, up hb h.2⟩ : e = _ ∧ Below w5.heap.size w5 w')))
        have C2 := Lib.hid (fun w1 (hb : Below w5.heap.size w5 w1) => (CF.out w1 (up BA.out hb)).mono (fun e w' h => (⟨h.1, up hb h.2⟩ : e = _ ∧ Below w5.heap.size w5 w')))
        have C3 := Lib.hid (fun w1 (hb : Below w5.heap.size w5 w1) => (CW.out w1 (up BA.out hb)).mono (fun e w' h => (⟨h.1, up hb h.2⟩ : e = _ ∧ Below w5.heap.size w5 w')))
        have hf : ∀ w, (Instr.field 48 (.agg #[.bool u, .int .i64 0, .string ⟨#[]⟩]) 0).run Tryz.prog w = .ok (.bool u) w := fun _ => by kernel_rfl
        clear c0 c1 c2
        go_region_held3 (fun w' => Below w5.heap.size w5 w' ∧ (w'.cell? ⟨w.heap.size, 0, none⟩ = some (.int .i64 k) ∧ w'.cell? ⟨w.heap.size, 1, none⟩ = some (.bool u)))
          (first | exact SK.out _ (Below.refl _ _).drew | exact SK.out _ (Below.refl _ _) | exact SK.out _ HA.out | fail "keep")
          ((first
            | (go_at_call 32; (with_reducible refine (C1.out _ (Below.refl _ _).drew).mono ?_); rintro e wA ⟨rfl, hA⟩; have HA := Lib.hid hA; clear hA)
            | (go_at_call 32; (with_reducible refine (C1.out _ HA.out).mono ?_); rintro e wA ⟨rfl, hA⟩; have HA := Lib.hid hA; clear hA)
            | (go_at_call 30; (with_reducible refine (C2.out _ HA.out).mono ?_); rintro e wA ⟨rfl, hA⟩; have HA := Lib.hid hA; clear hA)
            | (go_at_call 36; (with_reducible refine (C3.out _ HA.out).mono ?_); rintro e wA ⟨rfl, hA⟩; have HA := Lib.hid hA; clear hA)))
        go_wp2_with fail
        go_ret
        exact ⟨rfl, up BA.out HA.out⟩
end Go.Proofs.YtffdgcdmbccodaaGreatDoor
