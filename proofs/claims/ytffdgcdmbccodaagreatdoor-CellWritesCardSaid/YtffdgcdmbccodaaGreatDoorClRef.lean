/- The reference's May, of, Check, Zero and Compare. -/
import Derived.Test.YtffdgcdmbccodaaGreatDoorClWork
namespace Go.Proofs.YtffdgcdmbccodaaGreatDoor
open Go.RowKit
set_option linter.unusedVariables false
set_option maxRecDepth 100000

theorem rMay (u : Bool) (k : Int) (w : World) (b : Bool) (hb : Cl.may k = b) : Calls Tryz.prog 29 #[tv u k] w fun e w' => e = .returned (.bool b) ∧ Below w.heap.size w w' := by
  unfold Cl.may at hb
  unfold tv
  by_cases h1 : 1 ≤ k
  · by_cases h2 : k ≤ 5
    · obtain rfl : b = true := by rw [← hb]; simp; omega
      clear hb
      go_enter Tryz.func29, Tryz.ntmps29
      go_wp2_with fail
      go_ret
      exact ⟨rfl, box_new _ _⟩
    · obtain rfl : b = false := by rw [← hb]; simp; omega
      clear hb
      go_enter Tryz.func29, Tryz.ntmps29
      go_wp2_with fail
      go_ret
      exact ⟨rfl, box_new _ _⟩
  · obtain rfl : b = false := by rw [← hb]; simp; omega
    clear hb
    go_enter Tryz.func29, Tryz.ntmps29
    go_wp2_with fail
    go_ret
    exact ⟨rfl, box_new _ _⟩
theorem ofNull (u : Bool) (k : Int) (n : Int) (s : ByteArray) (w : World) (b : Bool) (hm : s.size ≤ 1000000) (hb : Cl.of u k ⟨true, n, s⟩ = b) : Calls Tryz.prog 68 #[tv u k, cv ⟨true, n, s⟩] w fun e w' => e = .returned (.bool b) ∧ Below w.heap.size w w' := by
  have B0 := Lib.hid (BX.start w u k ⟨true, n, s⟩)
  simp only at B0
  unfold tv cv
  simp only
  by_cases hu : u = true
  · subst hu
    by_cases hn : n = 0
    · subst hn
      by_cases he : bl s = []
      · have q2 : s.toList.isEmpty = true := by rw [bl_empty]; simp [he]
        have q1 : s.toList = [] := by simpa using q2
        have q3 : (s.toList == []) = true := by simp [q1]
        obtain rfl : b = true := by rw [← hb]; simp [Cl.of, Cl.none?, Cl.isK, he]
        clear hb
        go_enter Tryz.func68, Tryz.ntmps68
        go_wp2_with fail
        go_ret
        exact ⟨rfl, B0.out.b⟩
      · have q2 : s.toList.isEmpty = false := by rw [bl_empty]; simp [he]
        have q1 : ¬ s.toList = [] := by simpa using q2
        have q3 : (s.toList == []) = false := by simp [q1]
        obtain rfl : b = false := by rw [← hb]; simp [Cl.of, Cl.none?, Cl.isK, he]
        clear hb
        go_enter Tryz.func68, Tryz.ntmps68
        go_wp2_with fail
        go_ret
        exact ⟨rfl, B0.out.b⟩
    · have d0 : (n == 0) = false := by simp [hn]
      obtain rfl : b = false := by rw [← hb]; simp [Cl.of, Cl.none?, Cl.isK, hn]
      clear hb
      go_enter Tryz.func68, Tryz.ntmps68
      go_wp2_with fail
      go_ret
      exact ⟨rfl, B0.out.b⟩
  · have hf : u = false := by simpa using hu
    subst hf
    obtain rfl : b = false := by rw [← hb]; simp [Cl.of, Cl.none?, Cl.isK]
    clear hb
    go_enter Tryz.func68, Tryz.ntmps68
    go_wp2_with fail
    go_ret
    exact ⟨rfl, B0.out.b⟩
theorem ofK1 (u : Bool) (n : Int) (s : ByteArray) (w : World) (b : Bool) (hm : s.size ≤ 1000000) (hb : Cl.of u 1 ⟨false, n, s⟩ = b) : Calls Tryz.prog 68 #[tv u 1, cv ⟨false, n, s⟩] w fun e w' => e = .returned (.bool b) ∧ Below w.heap.size w w' := by
  have B0 := Lib.hid (BX.start w u 1 ⟨false, n, s⟩)
  simp only at B0
  unfold tv cv
  simp only
  by_cases he : bl s = []
  · have q2 : s.toList.isEmpty = true := by rw [bl_empty]; simp [he]
    have q1 : s.toList = [] := by simpa using q2
    have q3 : (s.toList == []) = true := by simp [q1]
    by_cases hn : n = 0
    · subst hn
      obtain rfl : b = true := by rw [← hb]; simp [Cl.of, Cl.none?, Cl.isK, he]
      clear hb
      go_enter Tryz.func68, Tryz.ntmps68
      go_wp2_with fail
      go_ret
      exact ⟨rfl, B0.out.b⟩
    · have d0 : (n == 0) = false := by simp [hn]
      by_cases h1 : n = 1
      · subst h1
        obtain rfl : b = true := by rw [← hb]; simp [Cl.of, Cl.none?, Cl.isK, he]
        clear hb
        go_enter Tryz.func68, Tryz.ntmps68
        go_wp2_with fail
        go_ret
        exact ⟨rfl, B0.out.b⟩
      · have d1 : (n == 1) = false := by simp [h1]
        obtain rfl : b = false := by rw [← hb]; simp [Cl.of, Cl.none?, Cl.isK, he, hn, h1]
        clear hb
        go_enter Tryz.func68, Tryz.ntmps68
        go_wp2_with fail
        go_ret
        exact ⟨rfl, B0.out.b⟩
  · have q2 : s.toList.isEmpty = false := by rw [bl_empty]; simp [he]
    have q1 : ¬ s.toList = [] := by simpa using q2
    have q3 : (s.toList == []) = false := by simp [q1]
    obtain rfl : b = false := by rw [← hb]; simp [Cl.of, Cl.none?, Cl.isK, he]
    clear hb
    go_enter Tryz.func68, Tryz.ntmps68
    go_wp2_with fail
    go_ret
    exact ⟨rfl, B0.out.b⟩
theorem ofK2 (u : Bool) (n : Int) (s : ByteArray) (w : World) (b : Bool) (hm : s.size ≤ 1000000) (hb : Cl.of u 2 ⟨false, n, s⟩ = b) : Calls Tryz.prog 68 #[tv u 2, cv ⟨false, n, s⟩] w fun e w' => e = .returned (.bool b) ∧ Below w.heap.size w w' := by
  have B0 := Lib.hid (BX.start w u 2 ⟨false, n, s⟩)
  simp only at B0
  unfold tv cv
  simp only
  by_cases he : bl s = []
  · have q2 : s.toList.isEmpty = true := by rw [bl_empty]; simp [he]
    have q1 : s.toList = [] := by simpa using q2
    have q3 : (s.toList == []) = true := by simp [q1]
    by_cases h1 : -2147483648 ≤ n
    · by_cases h2 : n ≤ 2147483647
      · obtain rfl : b = true := by rw [← hb]; simp [Cl.of, Cl.none?, Cl.isK, he, h1, h2]
        clear hb
        go_enter Tryz.func68, Tryz.ntmps68
        go_wp2_with fail
        go_ret
        exact ⟨rfl, B0.out.b⟩
      · obtain rfl : b = false := by rw [← hb]; simp [Cl.of, Cl.none?, Cl.isK, he, h1, h2]
        clear hb
        go_enter Tryz.func68, Tryz.ntmps68
        go_wp2_with fail
        go_ret
        exact ⟨rfl, B0.out.b⟩
    · obtain rfl : b = false := by rw [← hb]; simp [Cl.of, Cl.none?, Cl.isK, he, h1]
      clear hb
      go_enter Tryz.func68, Tryz.ntmps68
      go_wp2_with fail
      go_ret
      exact ⟨rfl, B0.out.b⟩
  · have q2 : s.toList.isEmpty = false := by rw [bl_empty]; simp [he]
    have q1 : ¬ s.toList = [] := by simpa using q2
    have q3 : (s.toList == []) = false := by simp [q1]
    obtain rfl : b = false := by rw [← hb]; simp [Cl.of, Cl.none?, Cl.isK, he]
    clear hb
    go_enter Tryz.func68, Tryz.ntmps68
    go_wp2_with fail
    go_ret
    exact ⟨rfl, B0.out.b⟩
theorem ofK3 (u : Bool) (n : Int) (s : ByteArray) (w : World) (b : Bool) (hm : s.size ≤ 1000000) (hb : Cl.of u 3 ⟨false, n, s⟩ = b) : Calls Tryz.prog 68 #[tv u 3, cv ⟨false, n, s⟩] w fun e w' => e = .returned (.bool b) ∧ Below w.heap.size w w' := by
  have B0 := Lib.hid (BX.start w u 3 ⟨false, n, s⟩)
  simp only at B0
  unfold tv cv
  simp only
  by_cases he : bl s = []
  · have q2 : s.toList.isEmpty = true := by rw [bl_empty]; simp [he]
    have q1 : s.toList = [] := by simpa using q2
    have q3 : (s.toList == []) = true := by simp [q1]
    obtain rfl : b = true := by rw [← hb]; simp [Cl.of, Cl.none?, Cl.isK, he]
    clear hb
    go_enter Tryz.func68, Tryz.ntmps68
    go_wp2_with fail
    go_ret
    exact ⟨rfl, B0.out.b⟩
  · have q2 : s.toList.isEmpty = false := by rw [bl_empty]; simp [he]
    have q1 : ¬ s.toList = [] := by simpa using q2
    have q3 : (s.toList == []) = false := by simp [q1]
    obtain rfl : b = false := by rw [← hb]; simp [Cl.of, Cl.none?, Cl.isK, he]
    clear hb
    go_enter Tryz.func68, Tryz.ntmps68
    go_wp2_with fail
    go_ret
    exact ⟨rfl, B0.out.b⟩
theorem ofK5 (u : Bool) (n : Int) (s : ByteArray) (w : World) (b : Bool) (hm : s.size ≤ 1000000) (hb : Cl.of u 5 ⟨false, n, s⟩ = b) : Calls Tryz.prog 68 #[tv u 5, cv ⟨false, n, s⟩] w fun e w' => e = .returned (.bool b) ∧ Below w.heap.size w w' := by
  have B0 := Lib.hid (BX.start w u 5 ⟨false, n, s⟩)
  simp only at B0
  unfold tv cv
  simp only
  by_cases hn : n = 0
  · subst hn
    by_cases h1 : s.size ≤ 1024
    · have h1i : (s.size : Int) ≤ 1024 := by omega
      obtain rfl : b = true := by rw [← hb]; simp [Cl.of, Cl.none?, Cl.isK, h1]
      clear hb
      go_enter Tryz.func68, Tryz.ntmps68
      go_wp2_with fail
      go_ret
      exact ⟨rfl, B0.out.b⟩
    · have h1i : ¬ (s.size : Int) ≤ 1024 := by omega
      obtain rfl : b = false := by rw [← hb]; simp [Cl.of, Cl.none?, Cl.isK, h1]
      clear hb
      go_enter Tryz.func68, Tryz.ntmps68
      go_wp2_with fail
      go_ret
      exact ⟨rfl, B0.out.b⟩
  · have d0 : (n == 0) = false := by simp [hn]
    obtain rfl : b = false := by rw [← hb]; simp [Cl.of, Cl.none?, Cl.isK, hn]
    clear hb
    go_enter Tryz.func68, Tryz.ntmps68
    go_wp2_with fail
    go_ret
    exact ⟨rfl, B0.out.b⟩
theorem ofK4 (u : Bool) (n : Int) (s : ByteArray) (w : World) (b : Bool) (hm : s.size ≤ 1000000) (hb : Cl.of u 4 ⟨false, n, s⟩ = b) : Calls Tryz.prog 68 #[tv u 4, cv ⟨false, n, s⟩] w fun e w' => e = .returned (.bool b) ∧ Below w.heap.size w w' := by
  have B0 := Lib.hid (BX.start w u 4 ⟨false, n, s⟩)
  simp only at B0
  unfold tv cv
  simp only
  by_cases hn : n = 0
  · subst hn
    by_cases h1 : s.size ≤ 1024
    · have h1i : (s.size : Int) ≤ 1024 := by omega
      obtain rfl : b = Utf.vld (bl s) := by rw [← hb]; simp [Cl.of, Cl.none?, Cl.isK, h1]
      clear hb
      have CV4 := Lib.hid (fun w => rvalid s w (by unfold maxLen; omega) _ rfl)
      go_enter Tryz.func68, Tryz.ntmps68
      go_wp2_with fail
      ((with_reducible refine (CV4.out _).mono ?_); rintro e w1 ⟨rfl, b1⟩)
      have BB := Lib.hid (up B0.out.b b1)
      clear b1
      go_wp2_with fail
      go_ret
      exact ⟨rfl, BB.out⟩
    · have h1i : ¬ (s.size : Int) ≤ 1024 := by omega
      obtain rfl : b = false := by rw [← hb]; simp [Cl.of, Cl.none?, Cl.isK, h1]
      clear hb
      go_enter Tryz.func68, Tryz.ntmps68
      go_wp2_with fail
      go_ret
      exact ⟨rfl, B0.out.b⟩
  · have d0 : (n == 0) = false := by simp [hn]
    obtain rfl : b = false := by rw [← hb]; simp [Cl.of, Cl.none?, Cl.isK, hn]
    clear hb
    go_enter Tryz.func68, Tryz.ntmps68
    go_wp2_with fail
    go_ret
    exact ⟨rfl, B0.out.b⟩
theorem rOf (u : Bool) (k : Int) (c : Cl.C) (w : World) (b : Bool) (hk : Cl.may k = true) (hm : c.s.size ≤ 1000000) (hb : Cl.of u k c = b) : Calls Tryz.prog 68 #[tv u k, cv c] w fun e w' => e = .returned (.bool b) ∧ Below w.heap.size w w' := by
  obtain ⟨c0, n, s⟩ := c
  obtain ⟨h1, h2⟩ := Cl.may_le hk
  cases c0
  · have : k = 1 ∨ k = 2 ∨ k = 3 ∨ k = 4 ∨ k = 5 := by omega
    rcases this with rfl | rfl | rfl | rfl | rfl
    · exact ofK1 u n s w b hm hb
    · exact ofK2 u n s w b hm hb
    · exact ofK3 u n s w b hm hb
    · exact ofK4 u n s w b hm hb
    · exact ofK5 u n s w b hm hb
  · exact ofNull u k n s w b hm hb
theorem rCheck (u : Bool) (k : Int) (c : Cl.C) (w : World) (hm : c.s.size ≤ 1000000) (e0 : Nat) (he : Cl.chk u k c = e0) : Calls Tryz.prog 31 #[tv u k, cv c] w fun e w' => e = .returned (.int .i64 (e0 : Nat)) ∧ Below w.heap.size w w' := by
  have B0 := Lib.hid (BX.start w u k c)
  have CM := Lib.hid (fun w => rMay u k w _ rfl)
  have CO := Lib.hid (fun (h : Cl.may k = true) w => rOf u k c w _ h hm rfl)
  unfold Cl.chk at he
  obtain ⟨c0, n, s⟩ := c
  unfold tv cv at CO ⊢
  unfold tv at CM
  simp only at CO B0 ⊢
  clear hm
  cases hk : Cl.may k
  · rw [hk] at CM
    rw [if_pos hk] at he
    subst he
    clear hk CO
    go_enter Tryz.func31, Tryz.ntmps31
    go_wp2_with fail
    ((with_reducible refine (CM.out _).mono ?_); rintro e w1 ⟨rfl, b1⟩)
    have B1 := Lib.hid (B0.out.later b1)
    clear b1
    obtain ⟨⟨t0, t1⟩, ⟨c0, c1, c2⟩⟩ := B1.out.lies
    simp only at c0 c1 c2
    go_wp2_with fail
    go_ret
    exact ⟨rfl, B1.out.b⟩
  · have CF := Lib.hid (CO.out hk)
    rw [hk] at CM
    rw [if_neg (by rw [hk]; decide)] at he
    clear hk CO
    cases ho : Cl.of u k ⟨c0, n, s⟩
    · rw [ho] at CF
      rw [if_pos ho] at he
      subst he
      clear ho
      go_enter Tryz.func31, Tryz.ntmps31
      go_wp2_with fail
      ((with_reducible refine (CM.out _).mono ?_); rintro e w1 ⟨rfl, b1⟩)
      have B1 := Lib.hid (B0.out.later b1)
      clear b1
      obtain ⟨⟨t0, t1⟩, ⟨c0, c1, c2⟩⟩ := B1.out.lies
      simp only at c0 c1 c2
      go_wp2_with fail
      ((with_reducible refine (CF.out _).mono ?_); rintro e w2 ⟨rfl, b2⟩)
      have B2 := Lib.hid (B1.out.later b2)
      clear b2
      obtain ⟨⟨t0, t1⟩, ⟨c0, c1, c2⟩⟩ := B2.out.lies
      simp only at c0 c1 c2
      go_wp2_with fail
      go_ret
      exact ⟨rfl, B2.out.b⟩
    · rw [ho] at CF
      rw [if_neg (by rw [ho]; decide)] at he
      subst he
      clear ho
      go_enter Tryz.func31, Tryz.ntmps31
      go_wp2_with fail
      ((with_reducible refine (CM.out _).mono ?_); rintro e w1 ⟨rfl, b1⟩)
      have B1 := Lib.hid (B0.out.later b1)
      clear b1
      obtain ⟨⟨t0, t1⟩, ⟨c0, c1, c2⟩⟩ := B1.out.lies
      simp only at c0 c1 c2
      go_wp2_with fail
      ((with_reducible refine (CF.out _).mono ?_); rintro e w2 ⟨rfl, b2⟩)
      have B2 := Lib.hid (B1.out.later b2)
      clear b2
      obtain ⟨⟨t0, t1⟩, ⟨c0, c1, c2⟩⟩ := B2.out.lies
      simp only at c0 c1 c2
      go_wp2_with fail
      go_ret
      exact ⟨rfl, B2.out.b⟩
theorem rZero (u : Bool) (k : Int) (w : World) (b : Bool) (hb : (u && Cl.may k) = b) : Calls Tryz.prog 33 #[tv u k] w fun e w' => e = .returned (cv ⟨b, 0, ⟨#[]⟩⟩) ∧ Below w.heap.size w w' := by
  have B0 := Lib.hid (BX.start w u k Cl.empty)
  have HM := Lib.hid (fun w => rMay u k w _ rfl)
  unfold Cl.empty at B0
  simp only at B0
  unfold tv at HM ⊢
  generalize Cl.may k = q at *
  go_enter Tryz.func33, Tryz.ntmps33
  go_wp2_with fail
  ((with_reducible refine (HM.out _).mono ?_); rintro e w1 ⟨rfl, b1⟩)
  have BB := Lib.hid (B0.out.later b1)
  obtain ⟨⟨t0, t1⟩, ⟨c0, c1, c2⟩⟩ := BB.out.lies
  obtain ⟨f0, f1, f2⟩ := BB.out.free
  simp only at c0 c1 c2
  clear b1
  cases q <;> cases u
  all_goals
    obtain rfl := hb.symm
    go_wp2_with fail
    exact bodyPost_ret (ret1 rfl _ _ (w.heap.size + 1) _ rfl (BB.out.put _ _ _).1) rfl ⟨rfl, (BB.out.put _ _ _).2⟩
theorem two_new (w : World) (a b : Obj) : Below w.heap.size w ((w.alloc a).alloc b) := (box_new w _).alloc (by simp) _
theorem rCompare (a b : Cl.C) (w : World) (r : Int) (hr : Cl.cmp a b = r) : Calls Tryz.prog 35 #[cv a, cv b] w fun e w' => e = .returned (.int .i64 r) ∧ Below w.heap.size w w' := by
  have HE := fun w => run_eqc a b w
  by_cases hab : a = b
  · rw [eqc_dec a b true (by simp [hab])] at HE
    obtain rfl : r = 0 := by rw [← hr]; exact (Cl.cmp_zero a b).2 hab
    clear hr hab
    obtain ⟨au, an, at_⟩ := a
    obtain ⟨bu, bn, bs⟩ := b
    unfold cv at HE ⊢
    simp only at HE ⊢
    go_enter Tryz.func35, Tryz.ntmps35
    go_wp2_with fail
    go_ret
    exact ⟨rfl, two_new _ _ _⟩
  · rw [eqc_dec a b false (by simp [hab])] at HE
    obtain ⟨au, an, at_⟩ := a
    obtain ⟨bu, bn, bs⟩ := b
    unfold Cl.cmp at hr
    simp only at hr
    unfold cv at HE ⊢
    simp only at HE ⊢
    cases au <;> cases bu
    case false.true | true.false =>
      simp at hr
      subst hr
      clear hab
      go_enter Tryz.func35, Tryz.ntmps35
      go_wp2_with fail
      go_ret
      exact ⟨rfl, two_new _ _ _⟩
    all_goals
      rw [if_pos rfl] at hr
      have L := Tp.less_bl at_ bs
      by_cases h1 : an < bn
      · rw [if_pos h1] at hr
        subst hr
        clear hab
        go_enter Tryz.func35, Tryz.ntmps35
        go_wp2_with fail
        go_ret
        exact ⟨rfl, two_new _ _ _⟩
      · rw [if_neg h1] at hr
        by_cases h2 : bn < an
        · rw [if_pos h2] at hr
          subst hr
          have d0 : (an == bn) = false := by simp; omega
          clear hab
          go_enter Tryz.func35, Tryz.ntmps35
          go_wp2_with fail
          go_ret
          exact ⟨rfl, two_new _ _ _⟩
        · rw [if_neg h2] at hr
          obtain rfl : an = bn := by omega
          cases hl : Tp.less (bl at_) (bl bs)
          · rw [hl] at hr L
            rw [if_neg (by decide)] at hr
            cases hl2 : Tp.less (bl bs) (bl at_)
            · exact absurd (by rw [bl_inj (Tp.less_tri hl hl2)]) hab
            · rw [if_pos hl2] at hr
              subst hr
              clear hab hl hl2
              go_enter Tryz.func35, Tryz.ntmps35
              go_wp2_with fail
              go_ret
              exact ⟨rfl, two_new _ _ _⟩
          · rw [hl] at hr L
            rw [if_pos rfl] at hr
            subst hr
            clear hab hl
            go_enter Tryz.func35, Tryz.ntmps35
            go_wp2_with fail
            go_ret
            exact ⟨rfl, two_new _ _ _⟩
end Go.Proofs.YtffdgcdmbccodaaGreatDoor
