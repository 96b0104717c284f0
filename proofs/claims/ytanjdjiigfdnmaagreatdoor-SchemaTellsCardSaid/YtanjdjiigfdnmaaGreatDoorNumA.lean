/- Numbers of four digits behind a backslash and a u, of a first half or none (A), of a second half (B), as the program reads them. -/
import Derived.Test.YtanjdjiigfdnmaaGreatDoorNumP
namespace Go.Proofs.YtanjdjiigfdnmaaGreatDoor
open Go.RowKit
set_option linter.unusedVariables false

theorem takeFirst_can (a b : Int) (w : World) (r : Bool) (h : can false a b = r) :
    Calls Tryz.prog 208 #[.int .i32 a, .int .i32 b] w fun e w' => e = .returned (.bool r) ∧ w = w' := by
  have := can_is false a b w r h
  simpa only [canF, Bool.false_eq_true, if_false] using this
set_option maxHeartbeats 4000000 in
set_option maxRecDepth 100000 in
theorem takeFirst (s : ByteArray) (w : World) (hm : s.size ≤ maxLen) (R : Nat × Nat) (hR : tnP false (bl s) = R) :
    Calls Tryz.prog 207 #[.string s, .func (.func 208) #[] #[]] w fun e w' => e = tup32 R ∧ w = w' := by
  unfold maxLen at hm
  have C := cutPrefix s ⟨#[92, 117]⟩ w
  by_cases hp : Utf.pre (bl s) = 0
  · obtain ⟨p1, p2⟩ := pre_yes s hp
    rw [p1] at C
    unfold tnP at hR
    rw [if_neg (by omega), ← p2] at hR
    have hus : (⟨(Lib.trimPrefix s.data.toList (⟨#[92, 117]⟩ : ByteArray).data.toList).toArray⟩ : ByteArray).size ≤ s.size := by
      rw [← bl_length, p2, List.length_drop, bl_length]; omega
    generalize (⟨(Lib.trimPrefix s.data.toList (⟨#[92, 117]⟩ : ByteArray).data.toList).toArray⟩ : ByteArray) = u at *
    have H0 := Lib.hid (show Utf.hxF false (4 - 0) 0 0 ((bl u).drop 0) = R from hR)
    clear hR p1 p2 hp
    go_enter Tryz.func207, Tryz.ntmps207
    go_wp2_with fail
    ((with_reducible refine C.mono ?_); rintro e w' ⟨rfl, hw'⟩; subst hw')
    go_wp2
    go_loop [8, 9, 22] (fun v q i => ∃ k n L Q : Nat, k ≤ 4 ∧ k ≤ u.size ∧ i = .int .i64 k ∧ v = .int .i32 L ∧ q = .int .i32 Q ∧ n < 16 ^ k ∧ Hid (L = n * 16 ^ (4 - k)) ∧ Hid (Q = 16 ^ (4 - k)) ∧ Hid (J false k n) ∧ Hid (Utf.hxF false (4 - k) k n ((bl u).drop k) = R)) (fun _ _ i => 4 - (intOf i).toNat)
    case atStart => exact ⟨0, 0, 0, 65536, by omega, by omega, rfl, rfl, rfl, by simp, Lib.hid rfl, Lib.hid rfl, Lib.hid ⟨by simp, by simp⟩, H0⟩
    case round =>
      clear H0
      obtain ⟨k, n, L, Q, hk, hku, rfl, rfl, rfl, hn, HL, HQ, HJ, HS⟩ := hrel
      have hn2 := pow_lt k n hk hn
      have hum : u.size ≤ 9223372036854775807 := by omega
      by_cases hlt : k < 4
      · have hlt' : (k : Int) < 4 := by omega
        have hst := HS.out
        rw [show 4 - k = 3 - k + 1 by omega, hx_step, bl_length] at hst
        by_cases hks : k < u.size
        · rw [if_pos hks] at hst
          have hks' : ((k : Int) == (u.size : Int)) = false := by simp; omega
          have hx := bl_at u k hks
          have hxb := Utf.getD_byte (bl_byte u) k
          generalize (bl u).getD k 0 = c at *
          have hdl := Utf.dig_lt c
          have hcase : (k = 0 ∧ Q = 65536 ∧ 16 ^ (3 - k) = 4096) ∨ (k = 1 ∧ Q = 4096 ∧ 16 ^ (3 - k) = 256) ∨ (k = 2 ∧ Q = 256 ∧ 16 ^ (3 - k) = 16) ∨ (k = 3 ∧ Q = 16 ∧ 16 ^ (3 - k) = 1) := by
            rcases (show k = 0 ∨ k = 1 ∨ k = 2 ∨ k = 3 by omega) with e | e | e | e <;> subst e <;> have := HQ.out <;> simp at this <;> simp [this]
          have hLe := HL.out
          rw [show 4 - k = 3 - k + 1 by omega, Nat.pow_succ] at hLe
          have hLs : L < 65536 := by
            rcases hcase with ⟨e, _, e3⟩ | ⟨e, _, e3⟩ | ⟨e, _, e3⟩ | ⟨e, _, e3⟩ <;> rw [e3] at hLe <;> rw [e] at hn <;> simp at hn <;> omega
          by_cases hd : Utf.dig c = 16
          · rw [if_pos hd] at hst
            have C2 := digit_no c w hd hxb
            have HR := Lib.hid hst
            have hQ1 : 0 ≤ (Q : Int) / 16 := by omega
            have hQ2 : (Q : Int) / 16 ≤ 4096 := by rcases hcase with ⟨_, e, _⟩ | ⟨_, e, _⟩ | ⟨_, e, _⟩ | ⟨_, e, _⟩ <;> omega
            have hQ3 : (Q : Int) ≤ 65536 := by rcases hcase with ⟨_, e, _⟩ | ⟨_, e, _⟩ | ⟨_, e, _⟩ | ⟨_, e, _⟩ <;> omega
            clear hst hdl hd hcase hLe
            go_wp2_with (go_at_call 211; refine C2.mono ?_; rintro e w' ⟨rfl, hw'⟩; subst hw')
            go_ret2
            exact ⟨by rw [← HR.out]; rfl, rfl⟩
          · rw [if_neg hd] at hst
            have hdl2 := hdl hd
            have C2 := digit_yes c w hd hxb
            have hn3 : 16 * n + Utf.dig c < 16 ^ (k + 1) := by rw [Nat.pow_succ]; omega
            clear hdl hd
            generalize Utf.dig c = d at *
            have HN3 := Lib.hid hn3
            have HLE := Lib.hid hLe
            have HST := Lib.hid hst
            have HNN := Lib.hid hn
            clear hn3 hLe hst hn
            rcases hcase with ⟨hk0, rfl, e3⟩ | ⟨hk0, rfl, e3⟩ | ⟨hk0, rfl, e3⟩ | ⟨hk0, rfl, e3⟩
            · have hcb := can_bad false k n d 4096 L (by omega) e3.symm hdl2 HNN.out (by rw [HLE.out, e3] <;> omega) HJ.out
              have HK := Lib.hid hk0
              have hLd : ((L + d * 4096 : Nat) : Int) = (L : Int) + d * 4096 := by omega
              have HLD := Lib.hid hLd
              have E3 := Lib.hid e3
              clear hk0 e3 hLd
              by_cases hb : Utf.bad false k (16 * n + d) = true
              · have hst := HST.out
                rw [if_pos hb] at hst
                rw [hb] at hcb
                have HR := Lib.hid hst
                have HCB := Lib.hid hcb
                clear hst hcb hb HS
                go_wp2_with fail
                ((with_reducible refine C2.mono ?_); rintro e w' ⟨rfl, hw'⟩; subst hw')
                go_wp2_with fail
                refine (takeFirst_can _ _ _ false (by simpa using HCB.out)).mono ?_
                rintro e w' ⟨rfl, hw'⟩
                subst hw'
                go_wp2
                go_ret2
                exact ⟨by rw [← HR.out]; rfl, rfl⟩
              · have hst := HST.out
                rw [if_neg hb] at hst
                have hb2 : Utf.bad false k (16 * n + d) = false := by simpa using hb
                rw [hb2] at hcb
                have HR := Lib.hid (show Utf.hxF false (4 - (k + 1)) (k + 1) (16 * n + d) ((bl u).drop (k + 1)) = R by rw [show 4 - (k + 1) = 3 - k by omega]; exact hst)
                have HCB := Lib.hid hcb
                have HJ2 := Lib.hid (J_step false k n d (by omega) hdl2 HJ.out hb2)
                have HL2 := Lib.hid (show L + d * 4096 = (16 * n + d) * 16 ^ (4 - (k + 1)) by
                  have := HLE.out
                  rw [show 4 - (k + 1) = 3 - k by omega, E3.out]
                  rw [E3.out] at this
                  omega)
                have HQ2 := Lib.hid (show 4096 = 16 ^ (4 - (k + 1)) by rw [show 4 - (k + 1) = 3 - k by omega, E3.out])
                clear hst hcb hb hb2 HS
                go_wp2_with fail
                ((with_reducible refine C2.mono ?_); rintro e w' ⟨rfl, hw'⟩; subst hw')
                go_wp2_with fail
                refine (takeFirst_can _ _ _ true (by simpa using HCB.out)).mono ?_
                rintro e w' ⟨rfl, hw'⟩
                subst hw'
                go_wp2
                go_round
                case rel => exact ⟨k + 1, 16 * n + d, L + d * 4096, 4096, by omega, by omega, by go_num, by rw [HLD.out]; try rw [Int.mul_one], rfl, HN3.out, HL2, HQ2, HJ2, HR⟩
                case measure => simp [intOf]; omega
            · have hcb := can_bad false k n d 256 L (by omega) e3.symm hdl2 HNN.out (by rw [HLE.out, e3] <;> omega) HJ.out
              have HK := Lib.hid hk0
              have hLd : ((L + d * 256 : Nat) : Int) = (L : Int) + d * 256 := by omega
              have HLD := Lib.hid hLd
              have E3 := Lib.hid e3
              clear hk0 e3 hLd
              by_cases hb : Utf.bad false k (16 * n + d) = true
              · have hst := HST.out
                rw [if_pos hb] at hst
                rw [hb] at hcb
                have HR := Lib.hid hst
                have HCB := Lib.hid hcb
                clear hst hcb hb HS
                go_wp2_with fail
                ((with_reducible refine C2.mono ?_); rintro e w' ⟨rfl, hw'⟩; subst hw')
                go_wp2_with fail
                refine (takeFirst_can _ _ _ false (by simpa using HCB.out)).mono ?_
                rintro e w' ⟨rfl, hw'⟩
                subst hw'
                go_wp2
                go_ret2
                exact ⟨by rw [← HR.out]; rfl, rfl⟩
              · have hst := HST.out
                rw [if_neg hb] at hst
                have hb2 : Utf.bad false k (16 * n + d) = false := by simpa using hb
                rw [hb2] at hcb
                have HR := Lib.hid (show Utf.hxF false (4 - (k + 1)) (k + 1) (16 * n + d) ((bl u).drop (k + 1)) = R by rw [show 4 - (k + 1) = 3 - k by omega]; exact hst)
                have HCB := Lib.hid hcb
                have HJ2 := Lib.hid (J_step false k n d (by omega) hdl2 HJ.out hb2)
                have HL2 := Lib.hid (show L + d * 256 = (16 * n + d) * 16 ^ (4 - (k + 1)) by
                  have := HLE.out
                  rw [show 4 - (k + 1) = 3 - k by omega, E3.out]
                  rw [E3.out] at this
                  omega)
                have HQ2 := Lib.hid (show 256 = 16 ^ (4 - (k + 1)) by rw [show 4 - (k + 1) = 3 - k by omega, E3.out])
                clear hst hcb hb hb2 HS
                go_wp2_with fail
                ((with_reducible refine C2.mono ?_); rintro e w' ⟨rfl, hw'⟩; subst hw')
                go_wp2_with fail
                refine (takeFirst_can _ _ _ true (by simpa using HCB.out)).mono ?_
                rintro e w' ⟨rfl, hw'⟩
                subst hw'
                go_wp2
                go_round
                case rel => exact ⟨k + 1, 16 * n + d, L + d * 256, 256, by omega, by omega, by go_num, by rw [HLD.out]; try rw [Int.mul_one], rfl, HN3.out, HL2, HQ2, HJ2, HR⟩
                case measure => simp [intOf]; omega
            · have hcb := can_bad false k n d 16 L (by omega) e3.symm hdl2 HNN.out (by rw [HLE.out, e3] <;> omega) HJ.out
              have HK := Lib.hid hk0
              have hLd : ((L + d * 16 : Nat) : Int) = (L : Int) + d * 16 := by omega
              have HLD := Lib.hid hLd
              have E3 := Lib.hid e3
              clear hk0 e3 hLd
              by_cases hb : Utf.bad false k (16 * n + d) = true
              · have hst := HST.out
                rw [if_pos hb] at hst
                rw [hb] at hcb
                have HR := Lib.hid hst
                have HCB := Lib.hid hcb
                clear hst hcb hb HS
                go_wp2_with fail
                ((with_reducible refine C2.mono ?_); rintro e w' ⟨rfl, hw'⟩; subst hw')
                go_wp2_with fail
                refine (takeFirst_can _ _ _ false (by simpa using HCB.out)).mono ?_
                rintro e w' ⟨rfl, hw'⟩
                subst hw'
                go_wp2
                go_ret2
                exact ⟨by rw [← HR.out]; rfl, rfl⟩
              · have hst := HST.out
                rw [if_neg hb] at hst
                have hb2 : Utf.bad false k (16 * n + d) = false := by simpa using hb
                rw [hb2] at hcb
                have HR := Lib.hid (show Utf.hxF false (4 - (k + 1)) (k + 1) (16 * n + d) ((bl u).drop (k + 1)) = R by rw [show 4 - (k + 1) = 3 - k by omega]; exact hst)
                have HCB := Lib.hid hcb
                have HJ2 := Lib.hid (J_step false k n d (by omega) hdl2 HJ.out hb2)
                have HL2 := Lib.hid (show L + d * 16 = (16 * n + d) * 16 ^ (4 - (k + 1)) by
                  have := HLE.out
                  rw [show 4 - (k + 1) = 3 - k by omega, E3.out]
                  rw [E3.out] at this
                  omega)
                have HQ2 := Lib.hid (show 16 = 16 ^ (4 - (k + 1)) by rw [show 4 - (k + 1) = 3 - k by omega, E3.out])
                clear hst hcb hb hb2 HS
                go_wp2_with fail
                ((with_reducible refine C2.mono ?_); rintro e w' ⟨rfl, hw'⟩; subst hw')
                go_wp2_with fail
                refine (takeFirst_can _ _ _ true (by simpa using HCB.out)).mono ?_
                rintro e w' ⟨rfl, hw'⟩
                subst hw'
                go_wp2
                go_round
                case rel => exact ⟨k + 1, 16 * n + d, L + d * 16, 16, by omega, by omega, by go_num, by rw [HLD.out]; try rw [Int.mul_one], rfl, HN3.out, HL2, HQ2, HJ2, HR⟩
                case measure => simp [intOf]; omega
            · have hcb := can_bad false k n d 1 L (by omega) e3.symm hdl2 HNN.out (by rw [HLE.out, e3] <;> omega) HJ.out
              have HK := Lib.hid hk0
              have hLd : ((L + d * 1 : Nat) : Int) = (L : Int) + d * 1 := by omega
              have HLD := Lib.hid hLd
              have E3 := Lib.hid e3
              clear hk0 e3 hLd
              by_cases hb : Utf.bad false k (16 * n + d) = true
              · have hst := HST.out
                rw [if_pos hb] at hst
                rw [hb] at hcb
                have HR := Lib.hid hst
                have HCB := Lib.hid hcb
                clear hst hcb hb HS
                go_wp2_with fail
                ((with_reducible refine C2.mono ?_); rintro e w' ⟨rfl, hw'⟩; subst hw')
                go_wp2_with fail
                refine (takeFirst_can _ _ _ false (by simpa using HCB.out)).mono ?_
                rintro e w' ⟨rfl, hw'⟩
                subst hw'
                go_wp2
                go_ret2
                exact ⟨by rw [← HR.out]; rfl, rfl⟩
              · have hst := HST.out
                rw [if_neg hb] at hst
                have hb2 : Utf.bad false k (16 * n + d) = false := by simpa using hb
                rw [hb2] at hcb
                have HR := Lib.hid (show Utf.hxF false (4 - (k + 1)) (k + 1) (16 * n + d) ((bl u).drop (k + 1)) = R by rw [show 4 - (k + 1) = 3 - k by omega]; exact hst)
                have HCB := Lib.hid hcb
                have HJ2 := Lib.hid (J_step false k n d (by omega) hdl2 HJ.out hb2)
                have HL2 := Lib.hid (show L + d * 1 = (16 * n + d) * 16 ^ (4 - (k + 1)) by
                  have := HLE.out
                  rw [show 4 - (k + 1) = 3 - k by omega, E3.out]
                  rw [E3.out] at this
                  omega)
                have HQ2 := Lib.hid (show 1 = 16 ^ (4 - (k + 1)) by rw [show 4 - (k + 1) = 3 - k by omega, E3.out])
                clear hst hcb hb hb2 HS
                go_wp2_with fail
                ((with_reducible refine C2.mono ?_); rintro e w' ⟨rfl, hw'⟩; subst hw')
                go_wp2_with fail
                refine (takeFirst_can _ _ _ true (by simpa using HCB.out)).mono ?_
                rintro e w' ⟨rfl, hw'⟩
                subst hw'
                go_wp2
                go_round
                case rel => exact ⟨k + 1, 16 * n + d, L + d * 1, 1, by omega, by omega, by go_num, by rw [HLD.out]; try rw [Int.mul_one], rfl, HN3.out, HL2, HQ2, HJ2, HR⟩
                case measure => simp [intOf]; omega
        · rw [if_neg hks] at hst
          have hks' : ((k : Int) == (u.size : Int)) = true := by simp; omega
          have HR := Lib.hid hst
          clear hst
          go_wp2
          go_ret2
          exact ⟨by rw [← HR.out]; rfl, rfl⟩
      · have hlt' : ¬ ((k : Int) < 4) := by omega
        have h4 := HS.out
        rw [show 4 - k = 0 by omega, Utf.hxF] at h4
        have h5 := HL.out
        rw [show 4 - k = 0 by omega, Nat.pow_zero, Nat.mul_one] at h5
        subst h5
        have HR := Lib.hid h4
        clear h4
        go_wp2
        go_ret2
        exact ⟨by rw [← HR.out]; rfl, rfl⟩
  · obtain ⟨p1, p2⟩ := pre_no s hp
    rw [p1] at C
    rw [tnP_no _ _ hp] at hR
    have C2 := hasPrefix ⟨#[92, 117]⟩ s w
    rcases p2 with ⟨e1, e2⟩ | ⟨e1, e2⟩
    all_goals
      rw [e2] at C2
      rw [e1] at hR
      have HR := Lib.hid hR
      clear hR hp p1 e1 e2
      generalize (⟨(Lib.trimPrefix s.data.toList (⟨#[92, 117]⟩ : ByteArray).data.toList).toArray⟩ : ByteArray) = u at *
      go_enter Tryz.func207, Tryz.ntmps207
      go_wp2_with fail
      ((with_reducible refine C.mono ?_); rintro e w' ⟨rfl, hw'⟩; subst hw')
      go_wp2_with fail
      ((with_reducible refine C2.mono ?_); rintro e w' ⟨rfl, hw'⟩; subst hw')
      go_wp2
      go_ret2
      exact ⟨by rw [← HR.out]; rfl, rfl⟩
end Go.Proofs.YtanjdjiigfdnmaaGreatDoor
