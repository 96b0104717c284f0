/- UtfShort's walk. -/
import Derived.Test.YtgjpjimpkdmbcaaDoorBackW
namespace Go.Proofs.YtgjpjimpkdmbcaaDoor
open Go.RowKit
set_option linter.unusedVariables false

theorem unq_err (l : List Nat) (t : List Nat) (n e : Nat) (h : Utf.unq l = (t, n, e)) (he : e ≠ 0) : t = [] ∧ n = 0 := by
  unfold Utf.unq at h
  repeat' split at h
  all_goals simp only [Prod.mk.injEq] at h
  · exact ⟨h.1.symm, h.2.1.symm⟩
  · exact ⟨h.1.symm, h.2.1.symm⟩
  · exact ⟨h.1.symm, h.2.1.symm⟩
  · omega
theorem unq_good (l : List Nat) (hl : ∀ x ∈ l, x < 256) (t : List Nat) (n : Nat) (h : Utf.unq l = (t, n, 0)) :
    (∃ rs, (∀ r ∈ rs, Utf.isr r) ∧ t = Utf.encs rs) ∧ (Utf.tidy t).length ≤ n ∧ 2 ≤ n ∧ n ≤ l.length := by
  unfold Utf.unq at h
  by_cases h0 : l = []
  · rw [if_pos h0] at h; simp at h
  · rw [if_neg h0] at h
    by_cases h1 : l.getD 0 0 ≠ 34
    · rw [if_pos h1] at h; simp at h
    · rw [if_neg h1] at h
      by_cases h2 : (Utf.ub (l.drop 1)).2.2 ≠ 0
      · rw [if_pos h2] at h
        simp only [Prod.mk.injEq] at h
        exact absurd h.2.2 h2
      · rw [if_neg h2] at h
        simp only [Prod.mk.injEq] at h
        obtain ⟨e1, e2, _⟩ := h
        obtain ⟨i1, i2, i3⟩ := Utf.ub_good (l.drop 1).length (l.drop 1) (Nat.le_refl _) (Utf.drop_byte hl 1) (by omega)
        rw [List.length_drop] at i3
        rw [e1] at i1 i2
        have hp : 0 < l.length := by cases l with | nil => exact absurd rfl h0 | cons => simp
        refine ⟨i1, ?_, by omega, by omega⟩
        unfold Utf.tidy
        simp; omega
set_option maxHeartbeats 4000000 in
set_option maxRecDepth 100000 in
theorem utfShort (s0 : ByteArray) (w : World) (hs : s0.size ≤ maxLen) (T : Tab w) :
    Calls Tryd.prog 6 #[.string s0] w fun e w' => e = .returned (.bool true) ∧ Below w.heap.size w w' := by
  have hmm := hs
  unfold maxLen at hmm
  have HT := Lib.hid T
  have hsl := fun w => clip_run 300 (by omega) s0 w
  have hc := clip_size 300 s0 (by omega)
  have hcm := clip_max 300 s0 (by omega)
  generalize clip 300 s0 = s at *
  obtain ⟨⟨t, n, e⟩, hu⟩ : ∃ p, Utf.unq (bl s) = p := ⟨_, rfl⟩
  have CU := unquote s w T (by omega) t n e hu
  unfold quad at CU
  by_cases he : e ≠ 0
  · obtain ⟨rfl, rfl⟩ := unq_err _ _ _ _ hu he
    rw [str_nil] at CU
    have d1 : ((e : Int) != 0) = true := by simp; omega
    have d2 : ((e : Int) == 0) = false := by rw [beq_eq_false_iff_ne]; omega
    clear hu he T
    go_enter Tryd.func6, Tryd.ntmps6
    go_wp2_with fail
    ((with_reducible refine CU.mono ?_); rintro x w1 ⟨rfl, b1⟩)
    go_wp2_with fail
    ((with_reducible refine (works w1 (HT.out.later b1)).mono ?_); rintro x w2 ⟨rfl, b2⟩)
    have B2 := Lib.hid (up b1 b2)
    clear b1 b2
    go_wp2
    go_ret
    exact ⟨rfl, B2.out⟩
  · obtain rfl : e = 0 := by omega
    obtain ⟨⟨rs, hrs, rfl⟩, g1, g2, g3⟩ := unq_good _ (bl_byte s) _ _ hu
    rw [bl_length] at g3
    have hbt := Utf.encs_byte rs hrs
    have htb := Utf.tidy_byte _ hbt
    have hb1 := bl_str _ hbt
    have hb2 := bl_str _ htb
    have hs1 := str_size (Utf.encs rs)
    have hs2 := str_size (Utf.tidy (Utf.encs rs))
    have hvl := Utf.vld_of rs hrs
    have hun := Utf.unq_tidy rs [] hrs (by simp)
    rw [List.append_nil] at hun
    have hel : (Utf.encs rs).length ≤ (Utf.tidy (Utf.encs rs)).length := by
      unfold Utf.tidy
      have : ∀ l : List Nat, l.length ≤ (Utf.escs l).length := fun l => by
        induction l with
        | nil => simp
        | cons a l ih => rw [Utf.escs_cons, List.length_append, List.length_cons]; have := Utf.escB_len a; omega
      have := this (Utf.encs rs)
      simp; omega
    have hqs : (str (Utf.tidy (Utf.encs rs))).size ≤ n := by rw [hs2]; exact g1
    have hts : (str (Utf.encs rs)).size ≤ 1000 := by rw [hs1]; omega
    have CQ : ∀ w', Tab w' → Calls Tryd.prog 20 #[.string (str (Utf.encs rs))] w' fun e w2 => e = .returned (.tuple #[.string (str (Utf.tidy (Utf.encs rs))), .int .i64 0]) ∧ Below w'.heap.size w' w2 := by
      intro w' T'
      have := quote_yes (str (Utf.encs rs)) w' T' (by rw [hs1]; omega) (by rw [hb1]; exact hvl)
      rwa [hb1] at this
    have CS : ∀ w', Tab w' → Calls Tryd.prog 25 #[.string (str (Utf.tidy (Utf.encs rs))), .string (str (Utf.encs rs)), .int .i64 (str (Utf.tidy (Utf.encs rs))).size] w' fun e w2 => e = .returned (.bool true) ∧ Below w'.heap.size w' w2 := by
      intro w' T'
      exact says_true _ _ _ w' T' (by omega) _ rfl (by rw [hb2, hb1, hun, hs2])
    have CV : ∀ w', Tab w' → Calls Tryd.prog 17 #[.string (str (Utf.encs rs))] w' fun e w2 => e = .returned (.bool true) ∧ Below w'.heap.size w' w2 := by
      intro w' T'
      exact valid _ w' T' (by unfold maxLen; omega) true (by rw [hb1]; exact hvl)
    generalize str (Utf.tidy (Utf.encs rs)) = q at *
    generalize str (Utf.encs rs) = u at *
    have HCQ := Lib.hid CQ
    have HCS := Lib.hid CS
    have HCV := Lib.hid CV
    have q1 : (2 : Int) ≤ n := by omega
    have q2 : (n : Int) ≤ s.size := by omega
    have q3 : (q.size : Int) ≤ n := by omega
    clear CQ CS CV hb1 hb2 hs1 hs2 hvl hun hel hbt htb g1 hu T hrs he
    go_enter Tryd.func6, Tryd.ntmps6
    go_wp2_with fail
    ((with_reducible refine CU.mono ?_); rintro x w1 ⟨rfl, b1⟩)
    go_wp2_with fail
    ((with_reducible refine (HCQ.out w1 (HT.out.later b1)).mono ?_); rintro x w2 ⟨rfl, b2⟩)
    go_wp2_with fail
    ((with_reducible refine (HCS.out w2 (HT.out.later (up b1 b2))).mono ?_); rintro x w3 ⟨rfl, b3⟩)
    have B3 := Lib.hid (up (up b1 b2) b3)
    clear b1 b2 b3
    go_wp2_with fail
    ((with_reducible refine (HCV.out w3 (HT.out.later B3.out)).mono ?_); rintro x w4 ⟨rfl, b4⟩)
    go_wp2_with fail
    ((with_reducible refine (works w4 (HT.out.later (up B3.out b4))).mono ?_); rintro x w5 ⟨rfl, b5⟩)
    have B5 := Lib.hid (up (up B3.out b4) b5)
    clear b4 b5
    go_wp2
    go_ret
    exact ⟨rfl, B5.out⟩
end Go.Proofs.YtgjpjimpkdmbcaaDoor
