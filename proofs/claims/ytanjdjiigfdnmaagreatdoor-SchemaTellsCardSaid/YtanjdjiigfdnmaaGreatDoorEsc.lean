/- Escapes, as the program takes them. -/
import Derived.Test.YtanjdjiigfdnmaaGreatDoorNumA
import Derived.Test.YtanjdjiigfdnmaaGreatDoorNumB
namespace Go.Proofs.YtanjdjiigfdnmaaGreatDoor
open Go.RowKit
set_option linter.unusedVariables false

theorem takeFirstE (s : ByteArray) (w : World) (hm : s.size ≤ maxLen) (v e : Nat) (hR : tnP false (bl s) = (v, e)) :
    Calls Tryz.prog 207 #[.string s, .func (.func 208) #[] #[]] w fun x w' => x = .returned (.tuple #[.int .i32 (v : Nat), .int .i64 (e : Nat)]) ∧ w = w' :=
  (takeFirst s w hm _ hR).mono fun _ _ ⟨h, k⟩ => ⟨h, k⟩
theorem takeSecondE (s : ByteArray) (w : World) (hm : s.size ≤ maxLen) (v e : Nat) (hR : tnP true (bl s) = (v, e)) :
    Calls Tryz.prog 207 #[.string s, .func (.func 209) #[] #[]] w fun x w' => x = .returned (.tuple #[.int .i32 (v : Nat), .int .i64 (e : Nat)]) ∧ w = w' :=
  (takeSecond s w hm _ hR).mono fun _ _ ⟨h, k⟩ => ⟨h, k⟩
/-- A rune, how many bytes, the error. -/
def trip (r n e : Nat) : Ending := .returned (.tuple #[.int .i32 (r : Nat), .int .i64 (n : Nat), .int .i64 (e : Nat)])
theorem tnP_yes (second : Bool) (l : List Nat) (h : Utf.pre l = 0) : tnP second l = Utf.hx second (l.drop 2) := by unfold tnP; rw [if_neg (by omega)]
theorem pre_iff (l : List Nat) (h2 : 2 ≤ l.length) (h0 : l.getD 0 0 = 92) : Utf.pre l = 0 ↔ l.getD 1 0 = 117 := by
  unfold Utf.pre
  rw [if_neg (by omega), if_neg (by omega), if_neg (by omega)]
  by_cases h : l.getD 1 0 = 117
  · rw [if_neg (by omega)]; exact ⟨fun _ => h, fun _ => rfl⟩
  · rw [if_pos h]; exact ⟨fun e => by omega, fun e => absurd e h⟩
theorem pre_117 (l : List Nat) (h : Utf.pre l = 0) : 2 ≤ l.length ∧ l.getD 0 0 = 92 ∧ l.getD 1 0 = 117 := by
  have := Utf.pre_good l h
  unfold Utf.pre at h
  repeat' split at h
  all_goals omega
set_option maxHeartbeats 2000000 in
set_option maxRecDepth 100000 in
theorem takeNumbered (s : ByteArray) (w : World) (hm : s.size ≤ maxLen) (hp : Utf.pre (bl s) = 0) (r n e : Nat) (hR : Utf.esc (bl s) = (r, n, e)) :
    Calls Tryz.prog 204 #[.string s] w fun x w' => x = trip r n e ∧ w = w' := by
  obtain ⟨q1, q2, q3⟩ := pre_117 _ hp
  have hf := tnP_yes false (bl s) hp
  unfold Utf.esc at hR
  rw [if_neg (by omega), if_pos q3] at hR
  obtain ⟨⟨a, f⟩, ha⟩ : ∃ p, Utf.hx false ((bl s).drop 2) = p := ⟨_, rfl⟩
  rw [ha] at hf hR
  have C1 := takeFirstE s w hm a f hf
  have hfirst := Utf.hx_first ((bl s).drop 2)
  have hlen := Utf.hx_len false ((bl s).drop 2)
  rw [ha] at hfirst hlen
  rw [List.length_drop, bl_length] at hlen
  simp only at hR hfirst hlen
  by_cases h1 : f ≠ 0
  · rw [if_pos h1] at hR
    have HR := Lib.hid hR
    have d1 : ((f : Int) != 0) = true := by simp; omega
    have d2 : ((f : Int) == 0) = false := by simp; omega
    clear hR hfirst hlen h1 ha hf hp q1 q2 q3
    go_enter Tryz.func204, Tryz.ntmps204
    go_wp2_with fail
    ((with_reducible refine C1.mono ?_); rintro x w' ⟨rfl, rfl⟩)
    go_wp2
    go_ret3
    have := HR.out
    simp only [Prod.mk.injEq] at this
    obtain ⟨rfl, rfl, rfl⟩ := this
    exact ⟨rfl, rfl⟩
  · rw [if_neg h1] at hR
    obtain rfl : f = 0 := by omega
    have k1 := hfirst rfl
    obtain ⟨k2, k3⟩ := hlen rfl
    clear hfirst hlen h1 hf
    by_cases h2 : a < 55296 ∨ 56319 < a
    · rw [if_pos h2] at hR
      have HR := Lib.hid hR
      have hA := Lib.hid ha
      have k3' : (a : Int) < 65536 := by omega
      rcases (show (a : Int) < 55296 ∨ (57344 : Int) ≤ a by omega) with h3 | h3
      all_goals
        clear hR hp q1 q2 q3 h2 k1 ha k2 k3
        generalize hx : (a : Int) = x at *
        have HX := Lib.hid hx
        clear hx
        go_enter Tryz.func204, Tryz.ntmps204
        go_wp2_with fail
        ((with_reducible refine C1.mono ?_); rintro x w' ⟨rfl, rfl⟩)
        go_wp2
        go_ret3
        have := HR.out
        simp only [Prod.mk.injEq] at this
        obtain ⟨rfl, rfl, rfl⟩ := this
        refine ⟨?_, rfl⟩
        unfold trip
        rw [HX.out]
        rfl
    · rw [if_neg h2] at hR
      have h3 : ¬ ((a : Int) < 55296) := by omega
      have h4 : ¬ ((57344 : Int) ≤ a) := by omega
      have h6 : (6 : Int) ≤ s.size := by omega
      have hu := bl_from s 6
      have hus : (s.extract 6 s.size).size ≤ maxLen := by rw [ByteArray.size_extract]; omega
      have hs2 : tnP true (bl (s.extract 6 s.size)) = if Utf.pre ((bl s).drop 6) ≠ 0 then (0, Utf.pre ((bl s).drop 6)) else Utf.hx true ((bl s).drop 8) := by
        rw [hu]; unfold tnP; rw [List.drop_drop]
      obtain ⟨⟨b, g⟩, hb⟩ : ∃ p, tnP true (bl (s.extract 6 s.size)) = p := ⟨_, rfl⟩
      have C2 := takeSecondE (s.extract 6 s.size) w hus b g hb
      rw [hb] at hs2
      have hA := Lib.hid ha
      have hres : (g ≠ 0 ∧ (r, n, e) = (0, 0, g)) ∨ (g = 0 ∧ 56320 ≤ b ∧ b ≤ 57343 ∧ (r, n, e) = (65536 + 1024 * (a - 55296) + (b - 56320), 12, 0)) := by
        by_cases h5 : Utf.pre ((bl s).drop 6) ≠ 0
        · rw [if_pos h5] at hR hs2
          simp only [Prod.mk.injEq] at hs2
          obtain ⟨_, rfl⟩ := hs2
          exact .inl ⟨h5, hR.symm⟩
        · rw [if_neg h5] at hR hs2
          have hsec := Utf.hx_second ((bl s).drop 8)
          rw [← hs2] at hR hsec
          simp only at hR hsec
          by_cases h7 : g ≠ 0
          · rw [if_pos h7] at hR
            exact .inl ⟨h7, hR.symm⟩
          · rw [if_neg h7] at hR
            have := hsec (by omega)
            exact .inr ⟨by omega, this.1, this.2, hR.symm⟩
      have HH := Lib.hid hres
      clear hR hs2 hb hu hp q1 q2 q3 h2 ha
      rcases HH.out with ⟨g1, g2⟩ | ⟨g1, g2, g3, g4⟩
      · have d1 : ((g : Int) != 0) = true := by simp; omega
        have d2 : ((g : Int) == 0) = false := by simp; omega
        have HR := Lib.hid g2
        clear g1 g2 hres k1 k2 k3
        generalize (a : Int) = x at *
        generalize (b : Int) = y at *
        go_enter Tryz.func204, Tryz.ntmps204
        go_wp2_with fail
        ((with_reducible refine C1.mono ?_); rintro x w' ⟨rfl, rfl⟩)
        go_wp2_with fail
        ((with_reducible refine C2.mono ?_); rintro x w' ⟨rfl, rfl⟩)
        go_wp2
        go_ret3
        have := HR.out
        simp only [Prod.mk.injEq] at this
        obtain ⟨rfl, rfl, rfl⟩ := this
        exact ⟨rfl, rfl⟩
      · subst g1
        have HR := Lib.hid g4
        have a1 : (55296 : Int) ≤ a := by omega
        have a2 : (a : Int) ≤ 56319 := by omega
        have b1 : (56320 : Int) ≤ b := by omega
        have b2 : (b : Int) ≤ 57343 := by omega
        have HV := Lib.hid (show ((65536 + 1024 * (a - 55296) + (b - 56320) : Nat) : Int) = 65536 + ((a : Int) - 55296) * 1024 + ((b : Int) - 56320) by omega)
        clear g4 hres k1 k3 k2 g2 g3
        generalize (a : Int) = x at *
        generalize (b : Int) = y at *
        go_enter Tryz.func204, Tryz.ntmps204
        go_wp2_with fail
        ((with_reducible refine C1.mono ?_); rintro x w' ⟨rfl, rfl⟩)
        go_wp2_with fail
        ((with_reducible refine C2.mono ?_); rintro x w' ⟨rfl, rfl⟩)
        go_wp2
        go_ret3
        have := HR.out
        simp only [Prod.mk.injEq] at this
        obtain ⟨e1, e2, e3⟩ := this
        refine ⟨?_, rfl⟩
        unfold trip
        rw [e1, e2, e3, HV.out]
        rfl

def escL : List (Nat × Nat) := [(34, 34), (92, 92), (98, 8), (102, 12), (110, 10), (114, 13), (116, 9), (47, 47)]
theorem lk_esc (c : Nat) : lk escL c = if Utf.said c = 0 then none else some (Utf.said c) := by
  unfold Utf.said
  repeat' split
  all_goals simp_all [escL, lk]
  all_goals omega
set_option maxHeartbeats 2000000 in
set_option maxRecDepth 100000 in
theorem takeEscape (s : ByteArray) (m : Nat) (w : World) (hM : IsMap w m escL) (hm : s.size ≤ maxLen) (h0 : 0 < s.size) (h92 : (bl s).getD 0 0 = 92) (r n e : Nat) (hR : Utf.esc (bl s) = (r, n, e)) :
    Calls Tryz.prog 190 #[.string s, .map (some m)] w fun x w' => x = trip r n e ∧ w = w' := by
  have hm2 := hm
  unfold maxLen at hm2
  by_cases h1 : s.size = 1
  · have hR2 := hR
    unfold Utf.esc at hR2
    rw [bl_length, if_pos (by omega)] at hR2
    have HR := Lib.hid hR2
    have d1 : ((s.size : Int) == 1) = true := by simp; omega
    clear hR hR2 h1 h92 hM
    go_enter Tryz.func190, Tryz.ntmps190
    go_wp2
    go_ret3
    have := HR.out
    simp only [Prod.mk.injEq] at this
    obtain ⟨rfl, rfl, rfl⟩ := this
    exact ⟨rfl, rfl⟩
  · have hlt1 : 1 < s.size := by omega
    have d1 : ((s.size : Int) == 1) = false := by rw [beq_eq_false_iff_ne]; omega
    have hiff := pre_iff (bl s) (by rw [bl_length]; omega) h92
    have CH := hasPrefix s ⟨#[92, 117]⟩ w
    by_cases hp : Utf.pre (bl s) = 0
    · rw [(pre_yes s hp).1] at CH
      have CN := takeNumbered s w hm hp r n e hR
      clear hR h1 h92 hM hiff hp
      go_enter Tryz.func190, Tryz.ntmps190
      go_wp2_with fail
      ((with_reducible refine CH.mono ?_); rintro x w' ⟨rfl, rfl⟩)
      unfold trip at CN
      go_wp2_with fail
      ((with_reducible refine CN.mono ?_); rintro x w' ⟨rfl, rfl⟩)
      go_wp2
      go_ret3
      exact ⟨rfl, rfl⟩
    · rw [(pre_no s hp).1] at CH
      have h117 : ¬ (bl s).getD 1 0 = 117 := fun e => hp (hiff.2 e)
      unfold Utf.esc at hR
      rw [bl_length, if_neg (by omega), if_neg h117] at hR
      have hx := bl_at s 1 hlt1
      have hlt : (1 : Int) < s.size := by omega
      have hxb := Utf.getD_byte (bl_byte s) 1
      have hlk := lk_esc ((bl s).getD 1 0)
      generalize (bl s).getD 1 0 = c at *
      by_cases hs : Utf.said c = 0
      · rw [if_pos hs] at hlk hR
        have hl := look_none hM c hlk
        have HR := Lib.hid hR
        clear hR h1 h92 hM hiff hp h117 hlk hs
        go_enter Tryz.func190, Tryz.ntmps190
        go_wp2_with fail
        ((with_reducible refine CH.mono ?_); rintro x w' ⟨rfl, rfl⟩)
        go_wp2
        go_ret3
        have := HR.out
        simp only [Prod.mk.injEq] at this
        obtain ⟨rfl, rfl, rfl⟩ := this
        exact ⟨rfl, rfl⟩
      · rw [if_neg hs] at hlk hR
        have hl := look_some hM c _ hlk
        have HR := Lib.hid hR
        clear hR h1 h92 hM hiff hp h117 hlk hs
        go_enter Tryz.func190, Tryz.ntmps190
        go_wp2_with fail
        ((with_reducible refine CH.mono ?_); rintro x w' ⟨rfl, rfl⟩)
        go_wp2
        go_ret3
        have := HR.out
        simp only [Prod.mk.injEq] at this
        obtain ⟨rfl, rfl, rfl⟩ := this
        exact ⟨rfl, rfl⟩
end Go.Proofs.YtanjdjiigfdnmaaGreatDoor
