/- Several texts in one: ClRead, ClReadB, ClRef, ClRefB, ClRefU, ClRefV, ClWork, RwCmpW, RwKeysW, RwR, RwRK. -/
import Derived.Test.YtfplogjdcndohaaGreatDoorClReadH
import Derived.Test.YtfplogjdcndohaaGreatDoorClDoB
import Derived.Test.YtfplogjdcndohaaGreatDoorClUnbB
import Derived.Test.YtfplogjdcndohaaGreatDoorClZc
import Derived.Test.YtfplogjdcndohaaGreatDoorRquote
import Derived.Deep.RegionHeld3
import Derived.Test.YtfplogjdcndohaaGreatDoorRa
import Derived.Test.YtfplogjdcndohaaGreatDoorRb
/- Read of the program. -/
namespace Go.Proofs.YtfplogjdcndohaaGreatDoor
open Go.RowKit
set_option linter.unusedVariables false
set_option maxRecDepth 100000

/-- What Read answers. -/
def RdPost (w : World) (u : Bool) (k : Int) (s : ByteArray) (e : Ending) (w' : World) : Prop := ∃ c e0, e = .returned (.tuple #[cv c, .int .i64 (e0 : Nat)]) ∧ Cl.Rdd u k s c e0 ∧ Cl.I64 c.n ∧ c.s.size ≤ 100000 ∧ Below w.heap.size w w'
theorem emptyI : Cl.I64 Cl.empty.n := by simp [Cl.I64, Cl.empty]
theorem emptyS : Cl.empty.s.size ≤ 100000 := by decide
end Go.Proofs.YtfplogjdcndohaaGreatDoor

/- Read of the program: the other kinds. -/
namespace Go.Proofs.YtfplogjdcndohaaGreatDoor
open Go.RowKit
set_option linter.unusedVariables false
set_option maxRecDepth 100000

end Go.Proofs.YtfplogjdcndohaaGreatDoor

/- The law's examples: text, none, bits, off, works. -/
namespace Go.Proofs.YtfplogjdcndohaaGreatDoor
open Go.RowKit
set_option linter.unusedVariables false
set_option maxRecDepth 100000

theorem its_one (n : Int) (b : Bool) (u : Nat) (hb : decide (n < 0) = b) (hu : n.natAbs = u) (h : u < 10) : bl (itS n) = Jr.sgn b ++ [48 + u] := by
  rw [itS_bl, hb, hu, Jr.dcs_small h, List.append_nil]
theorem none_num (k : Int) (u : Bool) (s : ByteArray) (v : Int) (hk : k = 2 ∨ k = 3) (hp : Lib.parseIntB 64 s.data.toList = .ok v) (hs : itS v ≠ s) (hn : s ≠ Cl.nullB) : Cl.Rdd u k s Cl.empty 4 := by
  refine .inr (.inr ⟨by rcases hk with rfl | rfl <;> rfl, rfl, rfl, fun d hd hi hx => ?_⟩)
  rcases Cl.of_parts hd with ⟨d1, _⟩ | ⟨d1, d2⟩
  · exact hn (by rw [← hx]; unfold Cl.txt; rw [if_pos d1])
  · rw [txt_at d1, if_neg (by rcases hk with rfl | rfl <;> decide), if_pos hk] at hx
    have := parse_itS d.n hi.1 hi.2
    rw [hx, hp] at this
    injection this with this
    exact hs (by rw [this]; exact hx)
theorem none_a : Cl.Rdd false 3 ⟨#[48, 48, 55]⟩ Cl.empty 4 := none_num 3 false _ 7 (.inr rfl) (by decide +kernel) (fun e => by
  have := congrArg List.length (congrArg bl e)
  rw [its_one 7 false 7 (by decide) rfl (by decide)] at this
  revert this; decide) (fun e => absurd (congrArg bl e) (by decide))
theorem none_d : Cl.Rdd true 2 ⟨#[45, 48]⟩ Cl.empty 4 := none_num 2 true _ 0 (.inl rfl) (by decide +kernel) (fun e => by
  have := congrArg List.length (congrArg bl e)
  rw [its_one 0 false 0 (by decide) rfl (by decide)] at this
  revert this; decide) (fun e => absurd (congrArg bl e) (by decide))
theorem none_c : Cl.Rdd false 1 Cl.nullB Cl.empty 4 := by
  refine .inr (.inr ⟨rfl, rfl, rfl, fun d hd hi hx => ?_⟩)
  rcases Cl.of_parts hd with ⟨d1, d2, _⟩ | ⟨d1, d2⟩
  · cases d2
  · exact Cl.txt_null d2 hx
theorem none_b : Cl.Rdd false 5 ⟨#[120, 70, 48]⟩ Cl.empty 4 := by
  refine .inr (.inr ⟨rfl, rfl, rfl, fun d hd hi hx => ?_⟩)
  rcases Cl.of_parts hd with ⟨d1, d2, _⟩ | ⟨d1, d2⟩
  · cases d2
  · rw [txt_at d1] at hx
    have hx : str (120 :: Cl.hexs (bl d.s)) = ⟨#[120, 70, 48]⟩ := hx
    have h1 := congrArg bl hx
    rw [bl_str _ (fun y hy => by
      simp only [List.mem_cons] at hy
      rcases hy with rfl | hy
      · omega
      · exact Cl.hexs_byte (bl_byte d.s) y hy)] at h1
    cases hb : bl d.s with
    | nil => rw [hb] at h1; revert h1; decide
    | cons b t =>
      rw [hb, Cl.hexs_cons] at h1
      have h2 : 120 :: Utf.hex (b / 16) :: Utf.hex (b % 16) :: Cl.hexs t = [120, 70, 48] := h1
      injection h2 with _ h2
      injection h2 with h2 _
      unfold Utf.hex at h2
      split at h2 <;> omega

theorem cc0 (w : World) (T : TA w) : Calls Tryz.prog 44 #[.agg #[.bool true, .int .i64 (0), .string (⟨#[]⟩ : ByteArray)], .agg #[.bool false, .int .i64 (-9), .string (⟨#[]⟩ : ByteArray)]] w fun e w' => e = .returned (.int .i64 (-1)) ∧ Below w.heap.size w w' := cCompare ⟨true, 0, (⟨#[]⟩ : ByteArray)⟩ ⟨false, -9, (⟨#[]⟩ : ByteArray)⟩ w _ (by decide +kernel)
theorem cc1 (w : World) (T : TA w) : Calls Tryz.prog 44 #[.agg #[.bool false, .int .i64 (3), .string (⟨#[]⟩ : ByteArray)], .agg #[.bool false, .int .i64 (2), .string (⟨#[]⟩ : ByteArray)]] w fun e w' => e = .returned (.int .i64 (1)) ∧ Below w.heap.size w w' := cCompare ⟨false, 3, (⟨#[]⟩ : ByteArray)⟩ ⟨false, 2, (⟨#[]⟩ : ByteArray)⟩ w _ (by decide +kernel)
theorem cc2 (w : World) (T : TA w) : Calls Tryz.prog 44 #[.agg #[.bool false, .int .i64 (0), .string (⟨#[97]⟩ : ByteArray)], .agg #[.bool false, .int .i64 (0), .string (⟨#[97, 98]⟩ : ByteArray)]] w fun e w' => e = .returned (.int .i64 (-1)) ∧ Below w.heap.size w w' := cCompare ⟨false, 0, (⟨#[97]⟩ : ByteArray)⟩ ⟨false, 0, (⟨#[97, 98]⟩ : ByteArray)⟩ w _ (by decide +kernel)
end Go.Proofs.YtfplogjdcndohaaGreatDoor

/- The reference's May, of, Check, Zero and Compare. -/
namespace Go.Proofs.YtfplogjdcndohaaGreatDoor
open Go.RowKit
set_option linter.unusedVariables false
set_option maxRecDepth 100000

theorem rMay (u : Bool) (k : Int) (w : World) (b : Bool) (hb : Cl.may k = b) : Calls Tryz.prog 58 #[tv u k] w fun e w' => e = .returned (.bool b) ∧ Below w.heap.size w w' := by
  unfold Cl.may at hb
  unfold tv
  by_cases h1 : 1 ≤ k
  · by_cases h2 : k ≤ 5
    · obtain rfl : b = true := by rw [← hb]; simp; omega
      clear hb
      go_enter Tryz.func58, Tryz.ntmps58
      go_wp2_with fail
      go_ret
      exact ⟨rfl, box_new _ _⟩
    · obtain rfl : b = false := by rw [← hb]; simp; omega
      clear hb
      go_enter Tryz.func58, Tryz.ntmps58
      go_wp2_with fail
      go_ret
      exact ⟨rfl, box_new _ _⟩
  · obtain rfl : b = false := by rw [← hb]; simp; omega
    clear hb
    go_enter Tryz.func58, Tryz.ntmps58
    go_wp2_with fail
    go_ret
    exact ⟨rfl, box_new _ _⟩
theorem ofNull (u : Bool) (k : Int) (n : Int) (s : ByteArray) (w : World) (b : Bool) (hm : s.size ≤ 1000000) (hb : Cl.of u k ⟨true, n, s⟩ = b) : Calls Tryz.prog 59 #[tv u k, cv ⟨true, n, s⟩] w fun e w' => e = .returned (.bool b) ∧ Below w.heap.size w w' := by
  have B0 := Lib.hid (BX.start w u k ⟨true, n, s⟩)
  simp only at B0
  unfold tv cv
  simp only
  by_cases hu : u = true
  · subst hu
    by_cases hn : n = 0
    · subst hn
      by_cases he : bl s = []
      · have q2 : s.toList.isEmpty = true := by rw [bl_empty]; simp [he]
        have q1 : s.toList = [] := by simpa using q2
        have q3 : (s.toList == []) = true := by simp [q1]
        obtain rfl : b = true := by rw [← hb]; simp [Cl.of, Cl.none?, Cl.isK, he]
        clear hb
        go_enter Tryz.func59, Tryz.ntmps59
        go_wp2_with fail
        go_ret
        exact ⟨rfl, B0.out.b⟩
      · have q2 : s.toList.isEmpty = false := by rw [bl_empty]; simp [he]
        have q1 : ¬ s.toList = [] := by simpa using q2
        have q3 : (s.toList == []) = false := by simp [q1]
        obtain rfl : b = false := by rw [← hb]; simp [Cl.of, Cl.none?, Cl.isK, he]
        clear hb
        go_enter Tryz.func59, Tryz.ntmps59
        go_wp2_with fail
        go_ret
        exact ⟨rfl, B0.out.b⟩
    · have d0 : (n == 0) = false := by simp [hn]
      obtain rfl : b = false := by rw [← hb]; simp [Cl.of, Cl.none?, Cl.isK, hn]
      clear hb
      go_enter Tryz.func59, Tryz.ntmps59
      go_wp2_with fail
      go_ret
      exact ⟨rfl, B0.out.b⟩
  · have hf : u = false := by simpa using hu
    subst hf
    obtain rfl : b = false := by rw [← hb]; simp [Cl.of, Cl.none?, Cl.isK]
    clear hb
    go_enter Tryz.func59, Tryz.ntmps59
    go_wp2_with fail
    go_ret
    exact ⟨rfl, B0.out.b⟩
theorem ofK1 (u : Bool) (n : Int) (s : ByteArray) (w : World) (b : Bool) (hm : s.size ≤ 1000000) (hb : Cl.of u 1 ⟨false, n, s⟩ = b) : Calls Tryz.prog 59 #[tv u 1, cv ⟨false, n, s⟩] w fun e w' => e = .returned (.bool b) ∧ Below w.heap.size w w' := by
  have B0 := Lib.hid (BX.start w u 1 ⟨false, n, s⟩)
  simp only at B0
  unfold tv cv
  simp only
  by_cases he : bl s = []
  · have q2 : s.toList.isEmpty = true := by rw [bl_empty]; simp [he]
    have q1 : s.toList = [] := by simpa using q2
    have q3 : (s.toList == []) = true := by simp [q1]
    by_cases hn : n = 0
    · subst hn
      obtain rfl : b = true := by rw [← hb]; simp [Cl.of, Cl.none?, Cl.isK, he]
      clear hb
      go_enter Tryz.func59, Tryz.ntmps59
      go_wp2_with fail
      go_ret
      exact ⟨rfl, B0.out.b⟩
    · have d0 : (n == 0) = false := by simp [hn]
      by_cases h1 : n = 1
      · subst h1
        obtain rfl : b = true := by rw [← hb]; simp [Cl.of, Cl.none?, Cl.isK, he]
        clear hb
        go_enter Tryz.func59, Tryz.ntmps59
        go_wp2_with fail
        go_ret
        exact ⟨rfl, B0.out.b⟩
      · have d1 : (n == 1) = false := by simp [h1]
        obtain rfl : b = false := by rw [← hb]; simp [Cl.of, Cl.none?, Cl.isK, he, hn, h1]
        clear hb
        go_enter Tryz.func59, Tryz.ntmps59
        go_wp2_with fail
        go_ret
        exact ⟨rfl, B0.out.b⟩
  · have q2 : s.toList.isEmpty = false := by rw [bl_empty]; simp [he]
    have q1 : ¬ s.toList = [] := by simpa using q2
    have q3 : (s.toList == []) = false := by simp [q1]
    obtain rfl : b = false := by rw [← hb]; simp [Cl.of, Cl.none?, Cl.isK, he]
    clear hb
    go_enter Tryz.func59, Tryz.ntmps59
    go_wp2_with fail
    go_ret
    exact ⟨rfl, B0.out.b⟩
theorem ofK2 (u : Bool) (n : Int) (s : ByteArray) (w : World) (b : Bool) (hm : s.size ≤ 1000000) (hb : Cl.of u 2 ⟨false, n, s⟩ = b) : Calls Tryz.prog 59 #[tv u 2, cv ⟨false, n, s⟩] w fun e w' => e = .returned (.bool b) ∧ Below w.heap.size w w' := by
  have B0 := Lib.hid (BX.start w u 2 ⟨false, n, s⟩)
  simp only at B0
  unfold tv cv
  simp only
  by_cases he : bl s = []
  · have q2 : s.toList.isEmpty = true := by rw [bl_empty]; simp [he]
    have q1 : s.toList = [] := by simpa using q2
    have q3 : (s.toList == []) = true := by simp [q1]
    by_cases h1 : -2147483648 ≤ n
    · by_cases h2 : n ≤ 2147483647
      · obtain rfl : b = true := by rw [← hb]; simp [Cl.of, Cl.none?, Cl.isK, he, h1, h2]
        clear hb
        go_enter Tryz.func59, Tryz.ntmps59
        go_wp2_with fail
        go_ret
        exact ⟨rfl, B0.out.b⟩
      · obtain rfl : b = false := by rw [← hb]; simp [Cl.of, Cl.none?, Cl.isK, he, h1, h2]
        clear hb
        go_enter Tryz.func59, Tryz.ntmps59
        go_wp2_with fail
        go_ret
        exact ⟨rfl, B0.out.b⟩
    · obtain rfl : b = false := by rw [← hb]; simp [Cl.of, Cl.none?, Cl.isK, he, h1]
      clear hb
      go_enter Tryz.func59, Tryz.ntmps59
      go_wp2_with fail
      go_ret
      exact ⟨rfl, B0.out.b⟩
  · have q2 : s.toList.isEmpty = false := by rw [bl_empty]; simp [he]
    have q1 : ¬ s.toList = [] := by simpa using q2
    have q3 : (s.toList == []) = false := by simp [q1]
    obtain rfl : b = false := by rw [← hb]; simp [Cl.of, Cl.none?, Cl.isK, he]
    clear hb
    go_enter Tryz.func59, Tryz.ntmps59
    go_wp2_with fail
    go_ret
    exact ⟨rfl, B0.out.b⟩
theorem ofK3 (u : Bool) (n : Int) (s : ByteArray) (w : World) (b : Bool) (hm : s.size ≤ 1000000) (hb : Cl.of u 3 ⟨false, n, s⟩ = b) : Calls Tryz.prog 59 #[tv u 3, cv ⟨false, n, s⟩] w fun e w' => e = .returned (.bool b) ∧ Below w.heap.size w w' := by
  have B0 := Lib.hid (BX.start w u 3 ⟨false, n, s⟩)
  simp only at B0
  unfold tv cv
  simp only
  by_cases he : bl s = []
  · have q2 : s.toList.isEmpty = true := by rw [bl_empty]; simp [he]
    have q1 : s.toList = [] := by simpa using q2
    have q3 : (s.toList == []) = true := by simp [q1]
    obtain rfl : b = true := by rw [← hb]; simp [Cl.of, Cl.none?, Cl.isK, he]
    clear hb
    go_enter Tryz.func59, Tryz.ntmps59
    go_wp2_with fail
    go_ret
    exact ⟨rfl, B0.out.b⟩
  · have q2 : s.toList.isEmpty = false := by rw [bl_empty]; simp [he]
    have q1 : ¬ s.toList = [] := by simpa using q2
    have q3 : (s.toList == []) = false := by simp [q1]
    obtain rfl : b = false := by rw [← hb]; simp [Cl.of, Cl.none?, Cl.isK, he]
    clear hb
    go_enter Tryz.func59, Tryz.ntmps59
    go_wp2_with fail
    go_ret
    exact ⟨rfl, B0.out.b⟩
theorem ofK5 (u : Bool) (n : Int) (s : ByteArray) (w : World) (b : Bool) (hm : s.size ≤ 1000000) (hb : Cl.of u 5 ⟨false, n, s⟩ = b) : Calls Tryz.prog 59 #[tv u 5, cv ⟨false, n, s⟩] w fun e w' => e = .returned (.bool b) ∧ Below w.heap.size w w' := by
  have B0 := Lib.hid (BX.start w u 5 ⟨false, n, s⟩)
  simp only at B0
  unfold tv cv
  simp only
  by_cases hn : n = 0
  · subst hn
    by_cases h1 : s.size ≤ 1024
    · have h1i : (s.size : Int) ≤ 1024 := by omega
      obtain rfl : b = true := by rw [← hb]; simp [Cl.of, Cl.none?, Cl.isK, h1]
      clear hb
      go_enter Tryz.func59, Tryz.ntmps59
      go_wp2_with fail
      go_ret
      exact ⟨rfl, B0.out.b⟩
    · have h1i : ¬ (s.size : Int) ≤ 1024 := by omega
      obtain rfl : b = false := by rw [← hb]; simp [Cl.of, Cl.none?, Cl.isK, h1]
      clear hb
      go_enter Tryz.func59, Tryz.ntmps59
      go_wp2_with fail
      go_ret
      exact ⟨rfl, B0.out.b⟩
  · have d0 : (n == 0) = false := by simp [hn]
    obtain rfl : b = false := by rw [← hb]; simp [Cl.of, Cl.none?, Cl.isK, hn]
    clear hb
    go_enter Tryz.func59, Tryz.ntmps59
    go_wp2_with fail
    go_ret
    exact ⟨rfl, B0.out.b⟩
theorem ofK4 (u : Bool) (n : Int) (s : ByteArray) (w : World) (b : Bool) (hm : s.size ≤ 1000000) (hb : Cl.of u 4 ⟨false, n, s⟩ = b) : Calls Tryz.prog 59 #[tv u 4, cv ⟨false, n, s⟩] w fun e w' => e = .returned (.bool b) ∧ Below w.heap.size w w' := by
  have B0 := Lib.hid (BX.start w u 4 ⟨false, n, s⟩)
  simp only at B0
  unfold tv cv
  simp only
  by_cases hn : n = 0
  · subst hn
    by_cases h1 : s.size ≤ 1024
    · have h1i : (s.size : Int) ≤ 1024 := by omega
      obtain rfl : b = Utf.vld (bl s) := by rw [← hb]; simp [Cl.of, Cl.none?, Cl.isK, h1]
      clear hb
      have CV4 := Lib.hid (fun w => rvalid s w (by unfold maxLen; omega) _ rfl)
      go_enter Tryz.func59, Tryz.ntmps59
      go_wp2_with fail
      ((with_reducible refine (CV4.out _).mono ?_); rintro e w1 ⟨rfl, b1⟩)
      have BB := Lib.hid (up B0.out.b b1)
      clear b1
      go_wp2_with fail
      go_ret
      exact ⟨rfl, BB.out⟩
    · have h1i : ¬ (s.size : Int) ≤ 1024 := by omega
      obtain rfl : b = false := by rw [← hb]; simp [Cl.of, Cl.none?, Cl.isK, h1]
      clear hb
      go_enter Tryz.func59, Tryz.ntmps59
      go_wp2_with fail
      go_ret
      exact ⟨rfl, B0.out.b⟩
  · have d0 : (n == 0) = false := by simp [hn]
    obtain rfl : b = false := by rw [← hb]; simp [Cl.of, Cl.none?, Cl.isK, hn]
    clear hb
    go_enter Tryz.func59, Tryz.ntmps59
    go_wp2_with fail
    go_ret
    exact ⟨rfl, B0.out.b⟩
theorem rOf (u : Bool) (k : Int) (c : Cl.C) (w : World) (b : Bool) (hk : Cl.may k = true) (hm : c.s.size ≤ 1000000) (hb : Cl.of u k c = b) : Calls Tryz.prog 59 #[tv u k, cv c] w fun e w' => e = .returned (.bool b) ∧ Below w.heap.size w w' := by
  obtain ⟨c0, n, s⟩ := c
  obtain ⟨h1, h2⟩ := Cl.may_le hk
  cases c0
  · have : k = 1 ∨ k = 2 ∨ k = 3 ∨ k = 4 ∨ k = 5 := by omega
    rcases this with rfl | rfl | rfl | rfl | rfl
    · exact ofK1 u n s w b hm hb
    · exact ofK2 u n s w b hm hb
    · exact ofK3 u n s w b hm hb
    · exact ofK4 u n s w b hm hb
    · exact ofK5 u n s w b hm hb
  · exact ofNull u k n s w b hm hb
theorem rCheck (u : Bool) (k : Int) (c : Cl.C) (w : World) (hm : c.s.size ≤ 1000000) (e0 : Nat) (he : Cl.chk u k c = e0) : Calls Tryz.prog 40 #[tv u k, cv c] w fun e w' => e = .returned (.int .i64 (e0 : Nat)) ∧ Below w.heap.size w w' := by
  have B0 := Lib.hid (BX.start w u k c)
  have CM := Lib.hid (fun w => rMay u k w _ rfl)
  have CO := Lib.hid (fun (h : Cl.may k = true) w => rOf u k c w _ h hm rfl)
  unfold Cl.chk at he
  obtain ⟨c0, n, s⟩ := c
  unfold tv cv at CO ⊢
  unfold tv at CM
  simp only at CO B0 ⊢
  clear hm
  cases hk : Cl.may k
  · rw [hk] at CM
    rw [if_pos hk] at he
    subst he
    clear hk CO
    go_enter Tryz.func40, Tryz.ntmps40
    go_wp2_with fail
    ((with_reducible refine (CM.out _).mono ?_); rintro e w1 ⟨rfl, b1⟩)
    have B1 := Lib.hid (B0.out.later b1)
    clear b1
    obtain ⟨⟨t0, t1⟩, ⟨c0, c1, c2⟩⟩ := B1.out.lies
    simp only at c0 c1 c2
    go_wp2_with fail
    go_ret
    exact ⟨rfl, B1.out.b⟩
  · have CF := Lib.hid (CO.out hk)
    rw [hk] at CM
    rw [if_neg (by rw [hk]; decide)] at he
    clear hk CO
    cases ho : Cl.of u k ⟨c0, n, s⟩
    · rw [ho] at CF
      rw [if_pos ho] at he
      subst he
      clear ho
      go_enter Tryz.func40, Tryz.ntmps40
      go_wp2_with fail
      ((with_reducible refine (CM.out _).mono ?_); rintro e w1 ⟨rfl, b1⟩)
      have B1 := Lib.hid (B0.out.later b1)
      clear b1
      obtain ⟨⟨t0, t1⟩, ⟨c0, c1, c2⟩⟩ := B1.out.lies
      simp only at c0 c1 c2
      go_wp2_with fail
      ((with_reducible refine (CF.out _).mono ?_); rintro e w2 ⟨rfl, b2⟩)
      have B2 := Lib.hid (B1.out.later b2)
      clear b2
      obtain ⟨⟨t0, t1⟩, ⟨c0, c1, c2⟩⟩ := B2.out.lies
      simp only at c0 c1 c2
      go_wp2_with fail
      go_ret
      exact ⟨rfl, B2.out.b⟩
    · rw [ho] at CF
      rw [if_neg (by rw [ho]; decide)] at he
      subst he
      clear ho
      go_enter Tryz.func40, Tryz.ntmps40
      go_wp2_with fail
      ((with_reducible refine (CM.out _).mono ?_); rintro e w1 ⟨rfl, b1⟩)
      have B1 := Lib.hid (B0.out.later b1)
      clear b1
      obtain ⟨⟨t0, t1⟩, ⟨c0, c1, c2⟩⟩ := B1.out.lies
      simp only at c0 c1 c2
      go_wp2_with fail
      ((with_reducible refine (CF.out _).mono ?_); rintro e w2 ⟨rfl, b2⟩)
      have B2 := Lib.hid (B1.out.later b2)
      clear b2
      obtain ⟨⟨t0, t1⟩, ⟨c0, c1, c2⟩⟩ := B2.out.lies
      simp only at c0 c1 c2
      go_wp2_with fail
      go_ret
      exact ⟨rfl, B2.out.b⟩
theorem two_new (w : World) (a b : Obj) : Below w.heap.size w ((w.alloc a).alloc b) := (box_new w _).alloc (by simp) _
theorem rCompare (a b : Cl.C) (w : World) (r : Int) (hr : Cl.cmp a b = r) : Calls Tryz.prog 47 #[cv a, cv b] w fun e w' => e = .returned (.int .i64 r) ∧ Below w.heap.size w w' := by
  have HE := fun w => run_eqc a b w
  by_cases hab : a = b
  · rw [eqc_dec a b true (by simp [hab])] at HE
    obtain rfl : r = 0 := by rw [← hr]; exact (Cl.cmp_zero a b).2 hab
    clear hr hab
    obtain ⟨au, an, at_⟩ := a
    obtain ⟨bu, bn, bs⟩ := b
    unfold cv at HE ⊢
    simp only at HE ⊢
    go_enter Tryz.func47, Tryz.ntmps47
    go_wp2_with fail
    go_ret
    exact ⟨rfl, two_new _ _ _⟩
  · rw [eqc_dec a b false (by simp [hab])] at HE
    obtain ⟨au, an, at_⟩ := a
    obtain ⟨bu, bn, bs⟩ := b
    unfold Cl.cmp at hr
    simp only at hr
    unfold cv at HE ⊢
    simp only at HE ⊢
    cases au <;> cases bu
    case false.true | true.false =>
      simp at hr
      subst hr
      clear hab
      go_enter Tryz.func47, Tryz.ntmps47
      go_wp2_with fail
      go_ret
      exact ⟨rfl, two_new _ _ _⟩
    all_goals
      rw [if_pos rfl] at hr
      have L := Tp.less_bl at_ bs
      by_cases h1 : an < bn
      · rw [if_pos h1] at hr
        subst hr
        clear hab
        go_enter Tryz.func47, Tryz.ntmps47
        go_wp2_with fail
        go_ret
        exact ⟨rfl, two_new _ _ _⟩
      · rw [if_neg h1] at hr
        by_cases h2 : bn < an
        · rw [if_pos h2] at hr
          subst hr
          have d0 : (an == bn) = false := by simp; omega
          clear hab
          go_enter Tryz.func47, Tryz.ntmps47
          go_wp2_with fail
          go_ret
          exact ⟨rfl, two_new _ _ _⟩
        · rw [if_neg h2] at hr
          obtain rfl : an = bn := by omega
          cases hl : Tp.less (bl at_) (bl bs)
          · rw [hl] at hr L
            rw [if_neg (by decide)] at hr
            cases hl2 : Tp.less (bl bs) (bl at_)
            · exact absurd (by rw [bl_inj (Tp.less_tri hl hl2)]) hab
            · rw [if_pos hl2] at hr
              subst hr
              clear hab hl hl2
              go_enter Tryz.func47, Tryz.ntmps47
              go_wp2_with fail
              go_ret
              exact ⟨rfl, two_new _ _ _⟩
          · rw [hl] at hr L
            rw [if_pos rfl] at hr
            subst hr
            clear hab hl
            go_enter Tryz.func47, Tryz.ntmps47
            go_wp2_with fail
            go_ret
            exact ⟨rfl, two_new _ _ _⟩
end Go.Proofs.YtfplogjdcndohaaGreatDoor

/- The reference's Bits. -/
namespace Go.Proofs.YtfplogjdcndohaaGreatDoor
open Go.RowKit
set_option linter.unusedVariables false
set_option maxRecDepth 100000

theorem out_str (w0 : World) (base : Nat) (l : List Nat) (x : ByteArray) (hx : str l = x) (v : Value) (w : World) (h : Own w base v l) : (convert 90 9 v).run Tryz.prog w = .ok (.string x) w := by
  rw [← hx]; exact run_str w _ v l h.rd
theorem rNumber (u : Bool) (k : Int) (w : World) (b : Bool) (hb : decide (k ≤ 3) = b) : Calls Tryz.prog 66 #[tv u k] w fun e w' => e = .returned (.bool b) ∧ Below w.heap.size w w' := by
  have hb2 := hb
  unfold tv
  go_enter Tryz.func66, Tryz.ntmps66
  go_wp2_with fail
  go_ret
  exact ⟨by simp, box_new _ _⟩
set_option maxHeartbeats 2000000 in
theorem rb1_0 (u : Bool) (s : ByteArray) (w : World) (hm : s.size ≤ 1000000) (he : Cl.chk u 1 ⟨false, 0, s⟩ = 0) (x : ByteArray) (hx : str (Cl.bts u 1 ⟨false, 0, s⟩) = x) : Calls Tryz.prog 52 #[tv u 1, cv ⟨false, 0, s⟩] w fun e w' => e = .returned (.tuple #[.string x, .int .i64 0]) ∧ Below w.heap.size w w' := by
  have B0 := Lib.hid (BX.start w u 1 ⟨false, 0, s⟩)
  have CC := Lib.hid (fun w => rCheck u 1 ⟨false, 0, s⟩ w hm 0 he)
  unfold tv cv at CC
  unfold tv cv
  simp only at CC B0 ⊢
  clear he
  go_enter Tryz.func52, Tryz.ntmps52
  go_wp2_with fail
  ((with_reducible refine (CC.out _).mono ?_); rintro e w1 ⟨rfl, b1⟩)
  have B1 := Lib.hid (B0.out.later b1)
  clear b1
  obtain ⟨⟨t0, t1⟩, ⟨c0, c1, c2⟩⟩ := B1.out.lies
  simp only at c0 c1 c2
  cases u
  · have HX := Lib.hid (fun v w => out_str w w1.heap.size ([] ++ [0]) x hx v w)
    clear hx
    go_wp2_with (at_builtin; refine wpList_app rfl _ _ rfl w1.heap.size _ ([]) rfl ((Own.nil w1 w1.heap.size).later (up_new _ _)) _ [0] rfl (rd_lit w1 _ _ 1 rfl rfl (by simp) (by simp; try omega)) (by simp; try omega) (by simp; try omega) ?_; intro v3 w3 o3 b3; have hcv := HX.out v3 w3 o3)
    go_ret2
    exact ⟨rfl, up B1.out.b ((up_new _ _).trans b3)⟩
  · have HX := Lib.hid (fun v w => out_str w w1.heap.size ([] ++ [1] ++ [0]) x hx v w)
    clear hx
    go_wp2_with (first | (at_builtin; refine wpList_app rfl _ _ rfl w1.heap.size _ ([]) rfl ((Own.nil w1 w1.heap.size).later (up_new _ _)) _ [1] rfl (rd_lit w1 _ _ 1 rfl rfl (by simp) (by simp; try omega)) (by simp; try omega) (by simp; try omega) ?_; intro v3 w3 o3 b3; have H3 := Lib.hid ((up_new w1 _).trans b3); have B3 := Lib.hid (B1.out.later H3.out); obtain ⟨⟨t0, t1⟩, ⟨c0, c1, c2⟩⟩ := B3.out.lies; simp only at c0 c1 c2; have z3 := H3.out.size) | (at_builtin; refine wpList_app rfl _ _ rfl w1.heap.size _ ([] ++ [1]) rfl (o3.later (up_new _ _)) _ [0] rfl (rd_lit w3 _ _ 1 rfl rfl (by simp) (by simp; try omega)) (by simp; try omega) (by simp; try omega) ?_; intro v4 w4 o4 b4; have hcv := HX.out v4 w4 o4))
    go_ret2
    exact ⟨rfl, up B1.out.b ((H3.out.alloc z3 _).trans b4)⟩
set_option maxHeartbeats 2000000 in
theorem rb1_1 (u : Bool) (s : ByteArray) (w : World) (hm : s.size ≤ 1000000) (he : Cl.chk u 1 ⟨false, 1, s⟩ = 0) (x : ByteArray) (hx : str (Cl.bts u 1 ⟨false, 1, s⟩) = x) : Calls Tryz.prog 52 #[tv u 1, cv ⟨false, 1, s⟩] w fun e w' => e = .returned (.tuple #[.string x, .int .i64 0]) ∧ Below w.heap.size w w' := by
  have B0 := Lib.hid (BX.start w u 1 ⟨false, 1, s⟩)
  have CC := Lib.hid (fun w => rCheck u 1 ⟨false, 1, s⟩ w hm 0 he)
  unfold tv cv at CC
  unfold tv cv
  simp only at CC B0 ⊢
  clear he
  go_enter Tryz.func52, Tryz.ntmps52
  go_wp2_with fail
  ((with_reducible refine (CC.out _).mono ?_); rintro e w1 ⟨rfl, b1⟩)
  have B1 := Lib.hid (B0.out.later b1)
  clear b1
  obtain ⟨⟨t0, t1⟩, ⟨c0, c1, c2⟩⟩ := B1.out.lies
  simp only at c0 c1 c2
  cases u
  · have HX := Lib.hid (fun v w => out_str w w1.heap.size ([] ++ [1]) x hx v w)
    clear hx
    go_wp2_with (at_builtin; refine wpList_app rfl _ _ rfl w1.heap.size _ ([]) rfl ((Own.nil w1 w1.heap.size).later (up_new _ _)) _ [1] rfl (rd_lit w1 _ _ 1 rfl rfl (by simp) (by simp; try omega)) (by simp; try omega) (by simp; try omega) ?_; intro v3 w3 o3 b3; have hcv := HX.out v3 w3 o3)
    go_ret2
    exact ⟨rfl, up B1.out.b ((up_new _ _).trans b3)⟩
  · have HX := Lib.hid (fun v w => out_str w w1.heap.size ([] ++ [1] ++ [1]) x hx v w)
    clear hx
    go_wp2_with (first | (at_builtin; refine wpList_app rfl _ _ rfl w1.heap.size _ ([]) rfl ((Own.nil w1 w1.heap.size).later (up_new _ _)) _ [1] rfl (rd_lit w1 _ _ 1 rfl rfl (by simp) (by simp; try omega)) (by simp; try omega) (by simp; try omega) ?_; intro v3 w3 o3 b3; have H3 := Lib.hid ((up_new w1 _).trans b3); have B3 := Lib.hid (B1.out.later H3.out); obtain ⟨⟨t0, t1⟩, ⟨c0, c1, c2⟩⟩ := B3.out.lies; simp only at c0 c1 c2; have z3 := H3.out.size) | (at_builtin; refine wpList_app rfl _ _ rfl w1.heap.size _ ([] ++ [1]) rfl (o3.later (up_new _ _)) _ [1] rfl (rd_lit w3 _ _ 1 rfl rfl (by simp) (by simp; try omega)) (by simp; try omega) (by simp; try omega) ?_; intro v4 w4 o4 b4; have hcv := HX.out v4 w4 o4))
    go_ret2
    exact ⟨rfl, up B1.out.b ((H3.out.alloc z3 _).trans b4)⟩
set_option maxHeartbeats 2000000 in
theorem rb4 (u : Bool) (n : Int) (s : ByteArray) (w : World) (hm : s.size ≤ 1000000) (he : Cl.chk u 4 ⟨false, n, s⟩ = 0) (x : ByteArray) (hx : str (Cl.bts u 4 ⟨false, n, s⟩) = x) : Calls Tryz.prog 52 #[tv u 4, cv ⟨false, n, s⟩] w fun e w' => e = .returned (.tuple #[.string x, .int .i64 0]) ∧ Below w.heap.size w w' := by
  have B0 := Lib.hid (BX.start w u 4 ⟨false, n, s⟩)
  have CC := Lib.hid (fun w => rCheck u 4 ⟨false, n, s⟩ w hm 0 he)
  unfold tv cv at CC
  unfold tv cv
  simp only at CC B0 ⊢
  clear he
  go_enter Tryz.func52, Tryz.ntmps52
  go_wp2_with fail
  ((with_reducible refine (CC.out _).mono ?_); rintro e w1 ⟨rfl, b1⟩)
  have B1 := Lib.hid (B0.out.later b1)
  clear b1
  obtain ⟨⟨t0, t1⟩, ⟨c0, c1, c2⟩⟩ := B1.out.lies
  simp only at c0 c1 c2
  cases u
  · have CN := Lib.hid (fun w => rNumber false 4 w _ rfl)
    unfold tv at CN
    simp at CN
    go_wp2_with fail
    ((with_reducible refine (CN.out _).mono ?_); rintro e w2 ⟨rfl, b2⟩)
    have HO0 := Lib.hid ((Own.nil w1 w1.heap.size).later b2)
    have HB0 := Lib.hid b2
    have B2 := Lib.hid (B1.out.later HB0.out)
    clear b2 t0 t1 c0 c1 c2
    obtain ⟨⟨t0, t1⟩, ⟨c0, c1, c2⟩⟩ := B2.out.lies
    simp only at c0 c1 c2
    go_wp2_with fail
    go_loopw [7, 10] (fun v i wr => ∃ j : Nat, j ≤ s.size ∧ i = .int .i64 j ∧ Own wr w1.heap.size v ([] ++ Cl.esc0 ((bl s).take j)) ∧ Below w1.heap.size w1 wr) (fun _ i _ => s.size - (intOf i).toNat)
    case atStart => exact ⟨0, by omega, rfl, by simpa [Cl.esc0] using HO0.out, HB0.out⟩
    case round =>
      clear t0 t1 c0 c1 c2
      obtain ⟨j, hj, rfl, ho, hb⟩ := hrel
      have hel := (Cl.esc0_len ((bl s).take j)).2
      rw [List.length_take, bl_length] at hel
      have hws := hb.size
      obtain ⟨a, c, rfl, -⟩ := ho.rd
      have HO := Lib.hid ho
      have HB := Lib.hid hb
      have BR := Lib.hid (B1.out.later hb)
      obtain ⟨⟨t0, t1⟩, ⟨c0, c1, c2⟩⟩ := BR.out.lies
      simp only at c0 c1 c2
      clear ho hb
      by_cases hlt : j < s.size
      · have hx := bl_at s j hlt
        have hsu : Cl.esc0 ((bl s).take (j + 1)) = Cl.esc0 ((bl s).take j) ++ (if (bl s).getD j 0 = 0 then [0, 255] else [(bl s).getD j 0]) := by
          rw [take_snoc (bl s) j (by rw [bl_length]; exact hlt), Cl.esc0_append]; simp [Cl.esc0]
        have hxb := Utf.getD_byte (bl_byte s) j
        generalize (bl s).getD j 0 = y at *
        have HSU := Lib.hid hsu
        clear hsu
        generalize Cl.esc0 ((bl s).take j) = L at *
        by_cases hy : y = 0
        · subst hy
          go_wp2_with (first | (at_builtin; refine wpList_app rfl _ _ rfl w1.heap.size _ ([] ++ L) rfl (HO.out.later (up_new _ _)) _ [0] rfl (rd_lit wr _ _ 1 rfl rfl (by simp) (by simp; try omega)) (by simp; try omega) (by simp; try omega) ?_; intro v5 w5 o5 b5; have H5 := Lib.hid ((HB.out.alloc hws _).trans b5); have B5 := Lib.hid (B1.out.later H5.out); obtain ⟨⟨t0, t1⟩, ⟨c0, c1, c2⟩⟩ := B5.out.lies; simp only at c0 c1 c2; have z5 := H5.out.size) | (at_builtin; refine wpList_app rfl _ _ rfl w1.heap.size _ ([] ++ L ++ [0]) rfl (o5.later (up_new _ _)) _ [255] rfl (rd_lit w5 _ _ 1 rfl rfl (by simp) (by simp; try omega)) (by simp; try omega) (by simp; try omega) ?_; intro v6 w6 o6 b6))
          go_roundw
          case rel => exact ⟨j + 1, by omega, by go_num, by rw [HSU.out, if_pos rfl]; simpa [List.append_assoc] using o6, (H5.out.alloc z5 _).trans b6⟩
          case measure => simp [intOf]; omega
        · have d0 : ((y : Int) == 0) = false := by simp; omega
          go_wp2_with (at_builtin; refine wpList_app rfl _ _ rfl w1.heap.size _ ([] ++ L) rfl (HO.out.later (up_new _ _)) _ [y] rfl (rd_lit wr _ _ 1 rfl rfl (by simp) (by simp; try omega)) (by simp; try omega) (by simp; try omega) ?_; intro v5 w5 o5 b5; have H5 := Lib.hid ((HB.out.alloc hws _).trans b5); have B5 := Lib.hid (B1.out.later H5.out); obtain ⟨⟨t0, t1⟩, ⟨c0, c1, c2⟩⟩ := B5.out.lies; simp only at c0 c1 c2; have z5 := H5.out.size)
          go_roundw
          case rel => exact ⟨j + 1, by omega, by go_num, by rw [HSU.out, if_neg hy]; simpa [List.append_assoc] using o5, H5.out⟩
          case measure => simp [intOf]; omega
      · have HX := Lib.hid (fun v w => out_str w w1.heap.size ([] ++ Cl.esc0 ((bl s).take j) ++ [0, 0]) x (by rw [← hx, List.take_of_length_le (by rw [bl_length]; omega)]; rfl) v w)
        have hlt' : ¬ (j : Int) < (s.size : Int) := by omega
        generalize Cl.esc0 ((bl s).take j) = L at *
        go_wp2_with (at_builtin; refine wpList_app rfl _ _ rfl w1.heap.size _ ([] ++ L) rfl (HO.out.later (up_new _ _)) _ [0, 0] rfl (rd_lit wr _ _ 2 rfl rfl (by simp) (by simp; try omega)) (by simp; try omega) (by simp; try omega) ?_; intro v5 w5 o5 b5; have hcv := HX.out v5 w5 o5)
        go_ret2
        exact ⟨rfl, up B1.out.b ((HB.out.alloc hws _).trans b5)⟩
  · have CN := Lib.hid (fun w => rNumber true 4 w _ rfl)
    unfold tv at CN
    simp at CN
    go_wp2_with (at_builtin; refine wpList_app rfl _ _ rfl w1.heap.size _ ([]) rfl ((Own.nil w1 w1.heap.size).later (up_new _ _)) _ [1] rfl (rd_lit w1 _ _ 1 rfl rfl (by simp) (by simp; try omega)) (by simp; try omega) (by simp; try omega) ?_; intro v3 w3 o3 b3; have H3 := Lib.hid ((up_new w1 _).trans b3); have B3 := Lib.hid (B1.out.later H3.out); obtain ⟨⟨t0, t1⟩, ⟨c0, c1, c2⟩⟩ := B3.out.lies; simp only at c0 c1 c2; have z3 := H3.out.size)
    ((with_reducible refine (CN.out _).mono ?_); rintro e w2 ⟨rfl, b2⟩)
    have HO0 := Lib.hid (o3.later b2)
    have HB0 := Lib.hid (up H3.out b2)
    have B2 := Lib.hid (B1.out.later HB0.out)
    clear b2 t0 t1 c0 c1 c2
    obtain ⟨⟨t0, t1⟩, ⟨c0, c1, c2⟩⟩ := B2.out.lies
    simp only at c0 c1 c2
    go_wp2_with fail
    go_loopw [7, 10] (fun v i wr => ∃ j : Nat, j ≤ s.size ∧ i = .int .i64 j ∧ Own wr w1.heap.size v ([] ++ [1] ++ Cl.esc0 ((bl s).take j)) ∧ Below w1.heap.size w1 wr) (fun _ i _ => s.size - (intOf i).toNat)
    case atStart => exact ⟨0, by omega, rfl, by simpa [Cl.esc0] using HO0.out, HB0.out⟩
    case round =>
      clear t0 t1 c0 c1 c2
      obtain ⟨j, hj, rfl, ho, hb⟩ := hrel
      have hel := (Cl.esc0_len ((bl s).take j)).2
      rw [List.length_take, bl_length] at hel
      have hws := hb.size
      obtain ⟨a, c, rfl, -⟩ := ho.rd
      have HO := Lib.hid ho
      have HB := Lib.hid hb
      have BR := Lib.hid (B1.out.later hb)
      obtain ⟨⟨t0, t1⟩, ⟨c0, c1, c2⟩⟩ := BR.out.lies
      simp only at c0 c1 c2
      clear ho hb
      by_cases hlt : j < s.size
      · have hx := bl_at s j hlt
        have hsu : Cl.esc0 ((bl s).take (j + 1)) = Cl.esc0 ((bl s).take j) ++ (if (bl s).getD j 0 = 0 then [0, 255] else [(bl s).getD j 0]) := by
          rw [take_snoc (bl s) j (by rw [bl_length]; exact hlt), Cl.esc0_append]; simp [Cl.esc0]
        have hxb := Utf.getD_byte (bl_byte s) j
        generalize (bl s).getD j 0 = y at *
        have HSU := Lib.hid hsu
        clear hsu
        generalize Cl.esc0 ((bl s).take j) = L at *
        by_cases hy : y = 0
        · subst hy
          go_wp2_with (first | (at_builtin; refine wpList_app rfl _ _ rfl w1.heap.size _ ([] ++ [1] ++ L) rfl (HO.out.later (up_new _ _)) _ [0] rfl (rd_lit wr _ _ 1 rfl rfl (by simp) (by simp; try omega)) (by simp; try omega) (by simp; try omega) ?_; intro v5 w5 o5 b5; have H5 := Lib.hid ((HB.out.alloc hws _).trans b5); have B5 := Lib.hid (B1.out.later H5.out); obtain ⟨⟨t0, t1⟩, ⟨c0, c1, c2⟩⟩ := B5.out.lies; simp only at c0 c1 c2; have z5 := H5.out.size) | (at_builtin; refine wpList_app rfl _ _ rfl w1.heap.size _ ([] ++ [1] ++ L ++ [0]) rfl (o5.later (up_new _ _)) _ [255] rfl (rd_lit w5 _ _ 1 rfl rfl (by simp) (by simp; try omega)) (by simp; try omega) (by simp; try omega) ?_; intro v6 w6 o6 b6))
          go_roundw
          case rel => exact ⟨j + 1, by omega, by go_num, by rw [HSU.out, if_pos rfl]; simpa [List.append_assoc] using o6, (H5.out.alloc z5 _).trans b6⟩
          case measure => simp [intOf]; omega
        · have d0 : ((y : Int) == 0) = false := by simp; omega
          go_wp2_with (at_builtin; refine wpList_app rfl _ _ rfl w1.heap.size _ ([] ++ [1] ++ L) rfl (HO.out.later (up_new _ _)) _ [y] rfl (rd_lit wr _ _ 1 rfl rfl (by simp) (by simp; try omega)) (by simp; try omega) (by simp; try omega) ?_; intro v5 w5 o5 b5; have H5 := Lib.hid ((HB.out.alloc hws _).trans b5); have B5 := Lib.hid (B1.out.later H5.out); obtain ⟨⟨t0, t1⟩, ⟨c0, c1, c2⟩⟩ := B5.out.lies; simp only at c0 c1 c2; have z5 := H5.out.size)
          go_roundw
          case rel => exact ⟨j + 1, by omega, by go_num, by rw [HSU.out, if_neg hy]; simpa [List.append_assoc] using o5, H5.out⟩
          case measure => simp [intOf]; omega
      · have HX := Lib.hid (fun v w => out_str w w1.heap.size ([] ++ [1] ++ Cl.esc0 ((bl s).take j) ++ [0, 0]) x (by rw [← hx, List.take_of_length_le (by rw [bl_length]; omega)]; rfl) v w)
        have hlt' : ¬ (j : Int) < (s.size : Int) := by omega
        generalize Cl.esc0 ((bl s).take j) = L at *
        go_wp2_with (at_builtin; refine wpList_app rfl _ _ rfl w1.heap.size _ ([] ++ [1] ++ L) rfl (HO.out.later (up_new _ _)) _ [0, 0] rfl (rd_lit wr _ _ 2 rfl rfl (by simp) (by simp; try omega)) (by simp; try omega) (by simp; try omega) ?_; intro v5 w5 o5 b5; have hcv := HX.out v5 w5 o5)
        go_ret2
        exact ⟨rfl, up B1.out.b ((HB.out.alloc hws _).trans b5)⟩
set_option maxHeartbeats 2000000 in
theorem rb5 (u : Bool) (n : Int) (s : ByteArray) (w : World) (hm : s.size ≤ 1000000) (he : Cl.chk u 5 ⟨false, n, s⟩ = 0) (x : ByteArray) (hx : str (Cl.bts u 5 ⟨false, n, s⟩) = x) : Calls Tryz.prog 52 #[tv u 5, cv ⟨false, n, s⟩] w fun e w' => e = .returned (.tuple #[.string x, .int .i64 0]) ∧ Below w.heap.size w w' := by
  have B0 := Lib.hid (BX.start w u 5 ⟨false, n, s⟩)
  have CC := Lib.hid (fun w => rCheck u 5 ⟨false, n, s⟩ w hm 0 he)
  unfold tv cv at CC
  unfold tv cv
  simp only at CC B0 ⊢
  clear he
  go_enter Tryz.func52, Tryz.ntmps52
  go_wp2_with fail
  ((with_reducible refine (CC.out _).mono ?_); rintro e w1 ⟨rfl, b1⟩)
  have B1 := Lib.hid (B0.out.later b1)
  clear b1
  obtain ⟨⟨t0, t1⟩, ⟨c0, c1, c2⟩⟩ := B1.out.lies
  simp only at c0 c1 c2
  cases u
  · have CN := Lib.hid (fun w => rNumber false 5 w _ rfl)
    unfold tv at CN
    simp at CN
    go_wp2_with fail
    ((with_reducible refine (CN.out _).mono ?_); rintro e w2 ⟨rfl, b2⟩)
    have HO0 := Lib.hid ((Own.nil w1 w1.heap.size).later b2)
    have HB0 := Lib.hid b2
    have B2 := Lib.hid (B1.out.later HB0.out)
    clear b2 t0 t1 c0 c1 c2
    obtain ⟨⟨t0, t1⟩, ⟨c0, c1, c2⟩⟩ := B2.out.lies
    simp only at c0 c1 c2
    go_wp2_with fail
    go_loopw [7, 10] (fun v i wr => ∃ j : Nat, j ≤ s.size ∧ i = .int .i64 j ∧ Own wr w1.heap.size v ([] ++ Cl.esc0 ((bl s).take j)) ∧ Below w1.heap.size w1 wr) (fun _ i _ => s.size - (intOf i).toNat)
    case atStart => exact ⟨0, by omega, rfl, by simpa [Cl.esc0] using HO0.out, HB0.out⟩
    case round =>
      clear t0 t1 c0 c1 c2
      obtain ⟨j, hj, rfl, ho, hb⟩ := hrel
      have hel := (Cl.esc0_len ((bl s).take j)).2
      rw [List.length_take, bl_length] at hel
      have hws := hb.size
      obtain ⟨a, c, rfl, -⟩ := ho.rd
      have HO := Lib.hid ho
      have HB := Lib.hid hb
      have BR := Lib.hid (B1.out.later hb)
      obtain ⟨⟨t0, t1⟩, ⟨c0, c1, c2⟩⟩ := BR.out.lies
      simp only at c0 c1 c2
      clear ho hb
      by_cases hlt : j < s.size
      · have hx := bl_at s j hlt
        have hsu : Cl.esc0 ((bl s).take (j + 1)) = Cl.esc0 ((bl s).take j) ++ (if (bl s).getD j 0 = 0 then [0, 255] else [(bl s).getD j 0]) := by
          rw [take_snoc (bl s) j (by rw [bl_length]; exact hlt), Cl.esc0_append]; simp [Cl.esc0]
        have hxb := Utf.getD_byte (bl_byte s) j
        generalize (bl s).getD j 0 = y at *
        have HSU := Lib.hid hsu
        clear hsu
        generalize Cl.esc0 ((bl s).take j) = L at *
        by_cases hy : y = 0
        · subst hy
          go_wp2_with (first | (at_builtin; refine wpList_app rfl _ _ rfl w1.heap.size _ ([] ++ L) rfl (HO.out.later (up_new _ _)) _ [0] rfl (rd_lit wr _ _ 1 rfl rfl (by simp) (by simp; try omega)) (by simp; try omega) (by simp; try omega) ?_; intro v5 w5 o5 b5; have H5 := Lib.hid ((HB.out.alloc hws _).trans b5); have B5 := Lib.hid (B1.out.later H5.out); obtain ⟨⟨t0, t1⟩, ⟨c0, c1, c2⟩⟩ := B5.out.lies; simp only at c0 c1 c2; have z5 := H5.out.size) | (at_builtin; refine wpList_app rfl _ _ rfl w1.heap.size _ ([] ++ L ++ [0]) rfl (o5.later (up_new _ _)) _ [255] rfl (rd_lit w5 _ _ 1 rfl rfl (by simp) (by simp; try omega)) (by simp; try omega) (by simp; try omega) ?_; intro v6 w6 o6 b6))
          go_roundw
          case rel => exact ⟨j + 1, by omega, by go_num, by rw [HSU.out, if_pos rfl]; simpa [List.append_assoc] using o6, (H5.out.alloc z5 _).trans b6⟩
          case measure => simp [intOf]; omega
        · have d0 : ((y : Int) == 0) = false := by simp; omega
          go_wp2_with (at_builtin; refine wpList_app rfl _ _ rfl w1.heap.size _ ([] ++ L) rfl (HO.out.later (up_new _ _)) _ [y] rfl (rd_lit wr _ _ 1 rfl rfl (by simp) (by simp; try omega)) (by simp; try omega) (by simp; try omega) ?_; intro v5 w5 o5 b5; have H5 := Lib.hid ((HB.out.alloc hws _).trans b5); have B5 := Lib.hid (B1.out.later H5.out); obtain ⟨⟨t0, t1⟩, ⟨c0, c1, c2⟩⟩ := B5.out.lies; simp only at c0 c1 c2; have z5 := H5.out.size)
          go_roundw
          case rel => exact ⟨j + 1, by omega, by go_num, by rw [HSU.out, if_neg hy]; simpa [List.append_assoc] using o5, H5.out⟩
          case measure => simp [intOf]; omega
      · have HX := Lib.hid (fun v w => out_str w w1.heap.size ([] ++ Cl.esc0 ((bl s).take j) ++ [0, 0]) x (by rw [← hx, List.take_of_length_le (by rw [bl_length]; omega)]; rfl) v w)
        have hlt' : ¬ (j : Int) < (s.size : Int) := by omega
        generalize Cl.esc0 ((bl s).take j) = L at *
        go_wp2_with (at_builtin; refine wpList_app rfl _ _ rfl w1.heap.size _ ([] ++ L) rfl (HO.out.later (up_new _ _)) _ [0, 0] rfl (rd_lit wr _ _ 2 rfl rfl (by simp) (by simp; try omega)) (by simp; try omega) (by simp; try omega) ?_; intro v5 w5 o5 b5; have hcv := HX.out v5 w5 o5)
        go_ret2
        exact ⟨rfl, up B1.out.b ((HB.out.alloc hws _).trans b5)⟩
  · have CN := Lib.hid (fun w => rNumber true 5 w _ rfl)
    unfold tv at CN
    simp at CN
    go_wp2_with (at_builtin; refine wpList_app rfl _ _ rfl w1.heap.size _ ([]) rfl ((Own.nil w1 w1.heap.size).later (up_new _ _)) _ [1] rfl (rd_lit w1 _ _ 1 rfl rfl (by simp) (by simp; try omega)) (by simp; try omega) (by simp; try omega) ?_; intro v3 w3 o3 b3; have H3 := Lib.hid ((up_new w1 _).trans b3); have B3 := Lib.hid (B1.out.later H3.out); obtain ⟨⟨t0, t1⟩, ⟨c0, c1, c2⟩⟩ := B3.out.lies; simp only at c0 c1 c2; have z3 := H3.out.size)
    ((with_reducible refine (CN.out _).mono ?_); rintro e w2 ⟨rfl, b2⟩)
    have HO0 := Lib.hid (o3.later b2)
    have HB0 := Lib.hid (up H3.out b2)
    have B2 := Lib.hid (B1.out.later HB0.out)
    clear b2 t0 t1 c0 c1 c2
    obtain ⟨⟨t0, t1⟩, ⟨c0, c1, c2⟩⟩ := B2.out.lies
    simp only at c0 c1 c2
    go_wp2_with fail
    go_loopw [7, 10] (fun v i wr => ∃ j : Nat, j ≤ s.size ∧ i = .int .i64 j ∧ Own wr w1.heap.size v ([] ++ [1] ++ Cl.esc0 ((bl s).take j)) ∧ Below w1.heap.size w1 wr) (fun _ i _ => s.size - (intOf i).toNat)
    case atStart => exact ⟨0, by omega, rfl, by simpa [Cl.esc0] using HO0.out, HB0.out⟩
    case round =>
      clear t0 t1 c0 c1 c2
      obtain ⟨j, hj, rfl, ho, hb⟩ := hrel
      have hel := (Cl.esc0_len ((bl s).take j)).2
      rw [List.length_take, bl_length] at hel
      have hws := hb.size
      obtain ⟨a, c, rfl, -⟩ := ho.rd
      have HO := Lib.hid ho
      have HB := Lib.hid hb
      have BR := Lib.hid (B1.out.later hb)
      obtain ⟨⟨t0, t1⟩, ⟨c0, c1, c2⟩⟩ := BR.out.lies
      simp only at c0 c1 c2
      clear ho hb
      by_cases hlt : j < s.size
      · have hx := bl_at s j hlt
        have hsu : Cl.esc0 ((bl s).take (j + 1)) = Cl.esc0 ((bl s).take j) ++ (if (bl s).getD j 0 = 0 then [0, 255] else [(bl s).getD j 0]) := by
          rw [take_snoc (bl s) j (by rw [bl_length]; exact hlt), Cl.esc0_append]; simp [Cl.esc0]
        have hxb := Utf.getD_byte (bl_byte s) j
        generalize (bl s).getD j 0 = y at *
        have HSU := Lib.hid hsu
        clear hsu
        generalize Cl.esc0 ((bl s).take j) = L at *
        by_cases hy : y = 0
        · subst hy
          go_wp2_with (first | (at_builtin; refine wpList_app rfl _ _ rfl w1.heap.size _ ([] ++ [1] ++ L) rfl (HO.out.later (up_new _ _)) _ [0] rfl (rd_lit wr _ _ 1 rfl rfl (by simp) (by simp; try omega)) (by simp; try omega) (by simp; try omega) ?_; intro v5 w5 o5 b5; have H5 := Lib.hid ((HB.out.alloc hws _).trans b5); have B5 := Lib.hid (B1.out.later H5.out); obtain ⟨⟨t0, t1⟩, ⟨c0, c1, c2⟩⟩ := B5.out.lies; simp only at c0 c1 c2; have z5 := H5.out.size) | (at_builtin; refine wpList_app rfl _ _ rfl w1.heap.size _ ([] ++ [1] ++ L ++ [0]) rfl (o5.later (up_new _ _)) _ [255] rfl (rd_lit w5 _ _ 1 rfl rfl (by simp) (by simp; try omega)) (by simp; try omega) (by simp; try omega) ?_; intro v6 w6 o6 b6))
          go_roundw
          case rel => exact ⟨j + 1, by omega, by go_num, by rw [HSU.out, if_pos rfl]; simpa [List.append_assoc] using o6, (H5.out.alloc z5 _).trans b6⟩
          case measure => simp [intOf]; omega
        · have d0 : ((y : Int) == 0) = false := by simp; omega
          go_wp2_with (at_builtin; refine wpList_app rfl _ _ rfl w1.heap.size _ ([] ++ [1] ++ L) rfl (HO.out.later (up_new _ _)) _ [y] rfl (rd_lit wr _ _ 1 rfl rfl (by simp) (by simp; try omega)) (by simp; try omega) (by simp; try omega) ?_; intro v5 w5 o5 b5; have H5 := Lib.hid ((HB.out.alloc hws _).trans b5); have B5 := Lib.hid (B1.out.later H5.out); obtain ⟨⟨t0, t1⟩, ⟨c0, c1, c2⟩⟩ := B5.out.lies; simp only at c0 c1 c2; have z5 := H5.out.size)
          go_roundw
          case rel => exact ⟨j + 1, by omega, by go_num, by rw [HSU.out, if_neg hy]; simpa [List.append_assoc] using o5, H5.out⟩
          case measure => simp [intOf]; omega
      · have HX := Lib.hid (fun v w => out_str w w1.heap.size ([] ++ [1] ++ Cl.esc0 ((bl s).take j) ++ [0, 0]) x (by rw [← hx, List.take_of_length_le (by rw [bl_length]; omega)]; rfl) v w)
        have hlt' : ¬ (j : Int) < (s.size : Int) := by omega
        generalize Cl.esc0 ((bl s).take j) = L at *
        go_wp2_with (at_builtin; refine wpList_app rfl _ _ rfl w1.heap.size _ ([] ++ [1] ++ L) rfl (HO.out.later (up_new _ _)) _ [0, 0] rfl (rd_lit wr _ _ 2 rfl rfl (by simp) (by simp; try omega)) (by simp; try omega) (by simp; try omega) ?_; intro v5 w5 o5 b5; have hcv := HX.out v5 w5 o5)
        go_ret2
        exact ⟨rfl, up B1.out.b ((HB.out.alloc hws _).trans b5)⟩
set_option maxHeartbeats 2000000 in
theorem rb2 (u : Bool) (n : Int) (s : ByteArray) (w : World) (hm : s.size ≤ 1000000) (he : Cl.chk u 2 ⟨false, n, s⟩ = 0) (hi : Cl.I64 n) (x : ByteArray) (hx : str (Cl.bts u 2 ⟨false, n, s⟩) = x) : Calls Tryz.prog 52 #[tv u 2, cv ⟨false, n, s⟩] w fun e w' => e = .returned (.tuple #[.string x, .int .i64 0]) ∧ Below w.heap.size w w' := by
  have B0 := Lib.hid (BX.start w u 2 ⟨false, n, s⟩)
  have CC := Lib.hid (fun w => rCheck u 2 ⟨false, n, s⟩ w hm 0 he)
  unfold tv cv at CC
  unfold tv cv
  simp only at CC B0 ⊢
  clear he
  go_enter Tryz.func52, Tryz.ntmps52
  go_wp2_with fail
  ((with_reducible refine (CC.out _).mono ?_); rintro e w1 ⟨rfl, b1⟩)
  have B1 := Lib.hid (B0.out.later b1)
  clear b1
  obtain ⟨⟨t0, t1⟩, ⟨c0, c1, c2⟩⟩ := B1.out.lies
  simp only at c0 c1 c2
  cases u
  · obtain ⟨m, hmm⟩ : ∃ m, Cl.turn n = m := ⟨_, rfl⟩
    have hm1 : m < 18446744073709551616 := by rw [← hmm]; exact Cl.turn_lt hi
    have hm2 : IntKind.u64.wrap (IntKind.u64.wrap n + 9223372036854775808) = (m : Int) := by
      unfold Cl.turn at hmm
      unfold Cl.I64 at hi
      rw [IntKind.wrap_u64, IntKind.wrap_u64]; omega
    have hx2 : str ([] ++ Cl.be m) = x := by rw [← hx, ← hmm]; rfl
    have HR := Lib.hid (fun k hk => shl_rest m k hk hm1)
    have HX := Lib.hid (fun v w => out_str w w1.heap.size ([] ++ Cl.be m) x hx2 v w)
    clear hx hmm hi hx2
    have CN := Lib.hid (fun w => rNumber false 2 w _ rfl)
    unfold tv at CN
    simp at CN
    go_wp2_with fail
    ((with_reducible refine (CN.out _).mono ?_); rintro e w2 ⟨rfl, b2⟩)
    have HO0 := Lib.hid ((Own.nil w1 w1.heap.size).later b2)
    have HB0 := Lib.hid b2
    have B2 := Lib.hid (B1.out.later HB0.out)
    clear b2 t0 t1 c0 c1 c2
    obtain ⟨⟨t0, t1⟩, ⟨c0, c1, c2⟩⟩ := B2.out.lies
    simp only at c0 c1 c2
    go_wp2_with fail
    go_loopw [7, 8, 9] (fun v r i wr => ∃ j : Nat, j ≤ 8 ∧ i = .int .i64 j ∧ r = .int .u64 (m * 256 ^ j % 18446744073709551616 : Nat) ∧ Own wr w1.heap.size v ([] ++ (Cl.be m).take j) ∧ Below w1.heap.size w1 wr) (fun _ _ i _ => 8 - (intOf i).toNat)
    case atStart => exact ⟨0, by omega, rfl, by rw [Nat.pow_zero, Nat.mul_one, Nat.mod_eq_of_lt hm1], by simpa using HO0.out, HB0.out⟩
    case round =>
      clear t0 t1 c0 c1 c2
      obtain ⟨j, hj, rfl, rfl, ho, hb⟩ := hrel
      have hel : ((Cl.be m).take j).length ≤ 8 := by rw [List.length_take, Cl.be_len]; omega
      have hws := hb.size
      obtain ⟨a, c, rfl, -⟩ := ho.rd
      have HO := Lib.hid ho
      have HB := Lib.hid hb
      clear ho hb
      by_cases hlt : j < 8
      · obtain ⟨h1, h2⟩ := HR.out j hlt
        have hbb := Cl.be_byte m ((Cl.be m).getD j 0) (by rw [List.getD_eq_getElem?_getD, List.getElem?_eq_getElem (by rw [Cl.be_len]; omega)]; simp)
        have HSU := Lib.hid (take_snoc (Cl.be m) j (by rw [Cl.be_len]; exact hlt))
        have hqm : m * 256 ^ j % 18446744073709551616 < 18446744073709551616 := by omega
        obtain ⟨q', hq'⟩ : ∃ q', m * 256 ^ (j + 1) % 18446744073709551616 = q' := ⟨_, rfl⟩
        rw [hq'] at h2
        have HQ := Lib.hid hq'
        clear hq'
        generalize m * 256 ^ j % 18446744073709551616 = q at *
        generalize (Cl.be m).getD j 0 = y at *
        generalize (Cl.be m).take j = L at *
        have hq : (q : Int) / 72057594037927936 = (y : Int) := by omega
        have hq0 : 0 ≤ (q : Int) := by omega
        have hq1 : (q : Int) ≤ 18446744073709551615 := by omega
        have hq2 : IntKind.u64.wrap ((q : Int) * 256) = (q' : Int) := by rw [IntKind.wrap_u64]; omega
        have hy2 : IntKind.u8.wrap (y : Int) = (y : Int) := IntWalk.u8_in _ ⟨by omega, by omega⟩
        clear h1 h2
        go_wp2_with (at_builtin; refine wpList_app rfl _ _ rfl w1.heap.size _ ([] ++ L) rfl (HO.out.later (up_new _ _)) _ [y] rfl (rd_lit wr _ _ 1 rfl rfl (by simp) (by simp; try omega)) (by simp; try omega) (by simp; try omega) ?_; intro v5 w5 o5 b5)
        go_roundw
        case rel => exact ⟨j + 1, by omega, by go_num, by rw [HQ.out], by rw [HSU.out]; simpa [List.append_assoc] using o5, (HB.out.alloc hws _).trans b5⟩
        case measure => simp [intOf]; omega
      · have hlt' : ¬ (j : Int) < 8 := by omega
        have HT := Lib.hid (show [] ++ (Cl.be m).take j = [] ++ Cl.be m by rw [List.take_of_length_le (by rw [Cl.be_len]; omega)])
        generalize [] ++ (Cl.be m).take j = L at *
        have hcv := HX.out _ wr (by rw [← HT.out]; exact HO.out)
        go_wp2_with fail
        go_ret2
        exact ⟨rfl, up B1.out.b HB.out⟩
  · obtain ⟨m, hmm⟩ : ∃ m, Cl.turn n = m := ⟨_, rfl⟩
    have hm1 : m < 18446744073709551616 := by rw [← hmm]; exact Cl.turn_lt hi
    have hm2 : IntKind.u64.wrap (IntKind.u64.wrap n + 9223372036854775808) = (m : Int) := by
      unfold Cl.turn at hmm
      unfold Cl.I64 at hi
      rw [IntKind.wrap_u64, IntKind.wrap_u64]; omega
    have hx2 : str ([] ++ [1] ++ Cl.be m) = x := by rw [← hx, ← hmm]; rfl
    have HR := Lib.hid (fun k hk => shl_rest m k hk hm1)
    have HX := Lib.hid (fun v w => out_str w w1.heap.size ([] ++ [1] ++ Cl.be m) x hx2 v w)
    clear hx hmm hi hx2
    have CN := Lib.hid (fun w => rNumber true 2 w _ rfl)
    unfold tv at CN
    simp at CN
    go_wp2_with (at_builtin; refine wpList_app rfl _ _ rfl w1.heap.size _ ([]) rfl ((Own.nil w1 w1.heap.size).later (up_new _ _)) _ [1] rfl (rd_lit w1 _ _ 1 rfl rfl (by simp) (by simp; try omega)) (by simp; try omega) (by simp; try omega) ?_; intro v3 w3 o3 b3; have H3 := Lib.hid ((up_new w1 _).trans b3); have B3 := Lib.hid (B1.out.later H3.out); obtain ⟨⟨t0, t1⟩, ⟨c0, c1, c2⟩⟩ := B3.out.lies; simp only at c0 c1 c2; have z3 := H3.out.size)
    ((with_reducible refine (CN.out _).mono ?_); rintro e w2 ⟨rfl, b2⟩)
    have HO0 := Lib.hid (o3.later b2)
    have HB0 := Lib.hid (up H3.out b2)
    have B2 := Lib.hid (B1.out.later HB0.out)
    clear b2 t0 t1 c0 c1 c2
    obtain ⟨⟨t0, t1⟩, ⟨c0, c1, c2⟩⟩ := B2.out.lies
    simp only at c0 c1 c2
    go_wp2_with fail
    go_loopw [7, 8, 9] (fun v r i wr => ∃ j : Nat, j ≤ 8 ∧ i = .int .i64 j ∧ r = .int .u64 (m * 256 ^ j % 18446744073709551616 : Nat) ∧ Own wr w1.heap.size v ([] ++ [1] ++ (Cl.be m).take j) ∧ Below w1.heap.size w1 wr) (fun _ _ i _ => 8 - (intOf i).toNat)
    case atStart => exact ⟨0, by omega, rfl, by rw [Nat.pow_zero, Nat.mul_one, Nat.mod_eq_of_lt hm1], by simpa using HO0.out, HB0.out⟩
    case round =>
      clear t0 t1 c0 c1 c2
      obtain ⟨j, hj, rfl, rfl, ho, hb⟩ := hrel
      have hel : ((Cl.be m).take j).length ≤ 8 := by rw [List.length_take, Cl.be_len]; omega
      have hws := hb.size
      obtain ⟨a, c, rfl, -⟩ := ho.rd
      have HO := Lib.hid ho
      have HB := Lib.hid hb
      clear ho hb
      by_cases hlt : j < 8
      · obtain ⟨h1, h2⟩ := HR.out j hlt
        have hbb := Cl.be_byte m ((Cl.be m).getD j 0) (by rw [List.getD_eq_getElem?_getD, List.getElem?_eq_getElem (by rw [Cl.be_len]; omega)]; simp)
        have HSU := Lib.hid (take_snoc (Cl.be m) j (by rw [Cl.be_len]; exact hlt))
        have hqm : m * 256 ^ j % 18446744073709551616 < 18446744073709551616 := by omega
        obtain ⟨q', hq'⟩ : ∃ q', m * 256 ^ (j + 1) % 18446744073709551616 = q' := ⟨_, rfl⟩
        rw [hq'] at h2
        have HQ := Lib.hid hq'
        clear hq'
        generalize m * 256 ^ j % 18446744073709551616 = q at *
        generalize (Cl.be m).getD j 0 = y at *
        generalize (Cl.be m).take j = L at *
        have hq : (q : Int) / 72057594037927936 = (y : Int) := by omega
        have hq0 : 0 ≤ (q : Int) := by omega
        have hq1 : (q : Int) ≤ 18446744073709551615 := by omega
        have hq2 : IntKind.u64.wrap ((q : Int) * 256) = (q' : Int) := by rw [IntKind.wrap_u64]; omega
        have hy2 : IntKind.u8.wrap (y : Int) = (y : Int) := IntWalk.u8_in _ ⟨by omega, by omega⟩
        clear h1 h2
        go_wp2_with (at_builtin; refine wpList_app rfl _ _ rfl w1.heap.size _ ([] ++ [1] ++ L) rfl (HO.out.later (up_new _ _)) _ [y] rfl (rd_lit wr _ _ 1 rfl rfl (by simp) (by simp; try omega)) (by simp; try omega) (by simp; try omega) ?_; intro v5 w5 o5 b5)
        go_roundw
        case rel => exact ⟨j + 1, by omega, by go_num, by rw [HQ.out], by rw [HSU.out]; simpa [List.append_assoc] using o5, (HB.out.alloc hws _).trans b5⟩
        case measure => simp [intOf]; omega
      · have hlt' : ¬ (j : Int) < 8 := by omega
        have HT := Lib.hid (show [] ++ [1] ++ (Cl.be m).take j = [] ++ [1] ++ Cl.be m by rw [List.take_of_length_le (by rw [Cl.be_len]; omega)])
        generalize [] ++ [1] ++ (Cl.be m).take j = L at *
        have hcv := HX.out _ wr (by rw [← HT.out]; exact HO.out)
        go_wp2_with fail
        go_ret2
        exact ⟨rfl, up B1.out.b HB.out⟩
set_option maxHeartbeats 2000000 in
theorem rb3 (u : Bool) (n : Int) (s : ByteArray) (w : World) (hm : s.size ≤ 1000000) (he : Cl.chk u 3 ⟨false, n, s⟩ = 0) (hi : Cl.I64 n) (x : ByteArray) (hx : str (Cl.bts u 3 ⟨false, n, s⟩) = x) : Calls Tryz.prog 52 #[tv u 3, cv ⟨false, n, s⟩] w fun e w' => e = .returned (.tuple #[.string x, .int .i64 0]) ∧ Below w.heap.size w w' := by
  have B0 := Lib.hid (BX.start w u 3 ⟨false, n, s⟩)
  have CC := Lib.hid (fun w => rCheck u 3 ⟨false, n, s⟩ w hm 0 he)
  unfold tv cv at CC
  unfold tv cv
  simp only at CC B0 ⊢
  clear he
  go_enter Tryz.func52, Tryz.ntmps52
  go_wp2_with fail
  ((with_reducible refine (CC.out _).mono ?_); rintro e w1 ⟨rfl, b1⟩)
  have B1 := Lib.hid (B0.out.later b1)
  clear b1
  obtain ⟨⟨t0, t1⟩, ⟨c0, c1, c2⟩⟩ := B1.out.lies
  simp only at c0 c1 c2
  cases u
  · obtain ⟨m, hmm⟩ : ∃ m, Cl.turn n = m := ⟨_, rfl⟩
    have hm1 : m < 18446744073709551616 := by rw [← hmm]; exact Cl.turn_lt hi
    have hm2 : IntKind.u64.wrap (IntKind.u64.wrap n + 9223372036854775808) = (m : Int) := by
      unfold Cl.turn at hmm
      unfold Cl.I64 at hi
      rw [IntKind.wrap_u64, IntKind.wrap_u64]; omega
    have hx2 : str ([] ++ Cl.be m) = x := by rw [← hx, ← hmm]; rfl
    have HR := Lib.hid (fun k hk => shl_rest m k hk hm1)
    have HX := Lib.hid (fun v w => out_str w w1.heap.size ([] ++ Cl.be m) x hx2 v w)
    clear hx hmm hi hx2
    have CN := Lib.hid (fun w => rNumber false 3 w _ rfl)
    unfold tv at CN
    simp at CN
    go_wp2_with fail
    ((with_reducible refine (CN.out _).mono ?_); rintro e w2 ⟨rfl, b2⟩)
    have HO0 := Lib.hid ((Own.nil w1 w1.heap.size).later b2)
    have HB0 := Lib.hid b2
    have B2 := Lib.hid (B1.out.later HB0.out)
    clear b2 t0 t1 c0 c1 c2
    obtain ⟨⟨t0, t1⟩, ⟨c0, c1, c2⟩⟩ := B2.out.lies
    simp only at c0 c1 c2
    go_wp2_with fail
    go_loopw [7, 8, 9] (fun v r i wr => ∃ j : Nat, j ≤ 8 ∧ i = .int .i64 j ∧ r = .int .u64 (m * 256 ^ j % 18446744073709551616 : Nat) ∧ Own wr w1.heap.size v ([] ++ (Cl.be m).take j) ∧ Below w1.heap.size w1 wr) (fun _ _ i _ => 8 - (intOf i).toNat)
    case atStart => exact ⟨0, by omega, rfl, by rw [Nat.pow_zero, Nat.mul_one, Nat.mod_eq_of_lt hm1], by simpa using HO0.out, HB0.out⟩
    case round =>
      clear t0 t1 c0 c1 c2
      obtain ⟨j, hj, rfl, rfl, ho, hb⟩ := hrel
      have hel : ((Cl.be m).take j).length ≤ 8 := by rw [List.length_take, Cl.be_len]; omega
      have hws := hb.size
      obtain ⟨a, c, rfl, -⟩ := ho.rd
      have HO := Lib.hid ho
      have HB := Lib.hid hb
      clear ho hb
      by_cases hlt : j < 8
      · obtain ⟨h1, h2⟩ := HR.out j hlt
        have hbb := Cl.be_byte m ((Cl.be m).getD j 0) (by rw [List.getD_eq_getElem?_getD, List.getElem?_eq_getElem (by rw [Cl.be_len]; omega)]; simp)
        have HSU := Lib.hid (take_snoc (Cl.be m) j (by rw [Cl.be_len]; exact hlt))
        have hqm : m * 256 ^ j % 18446744073709551616 < 18446744073709551616 := by omega
        obtain ⟨q', hq'⟩ : ∃ q', m * 256 ^ (j + 1) % 18446744073709551616 = q' := ⟨_, rfl⟩
        rw [hq'] at h2
        have HQ := Lib.hid hq'
        clear hq'
        generalize m * 256 ^ j % 18446744073709551616 = q at *
        generalize (Cl.be m).getD j 0 = y at *
        generalize (Cl.be m).take j = L at *
        have hq : (q : Int) / 72057594037927936 = (y : Int) := by omega
        have hq0 : 0 ≤ (q : Int) := by omega
        have hq1 : (q : Int) ≤ 18446744073709551615 := by omega
        have hq2 : IntKind.u64.wrap ((q : Int) * 256) = (q' : Int) := by rw [IntKind.wrap_u64]; omega
        have hy2 : IntKind.u8.wrap (y : Int) = (y : Int) := IntWalk.u8_in _ ⟨by omega, by omega⟩
        clear h1 h2
        go_wp2_with (at_builtin; refine wpList_app rfl _ _ rfl w1.heap.size _ ([] ++ L) rfl (HO.out.later (up_new _ _)) _ [y] rfl (rd_lit wr _ _ 1 rfl rfl (by simp) (by simp; try omega)) (by simp; try omega) (by simp; try omega) ?_; intro v5 w5 o5 b5)
        go_roundw
        case rel => exact ⟨j + 1, by omega, by go_num, by rw [HQ.out], by rw [HSU.out]; simpa [List.append_assoc] using o5, (HB.out.alloc hws _).trans b5⟩
        case measure => simp [intOf]; omega
      · have hlt' : ¬ (j : Int) < 8 := by omega
        have HT := Lib.hid (show [] ++ (Cl.be m).take j = [] ++ Cl.be m by rw [List.take_of_length_le (by rw [Cl.be_len]; omega)])
        generalize [] ++ (Cl.be m).take j = L at *
        have hcv := HX.out _ wr (by rw [← HT.out]; exact HO.out)
        go_wp2_with fail
        go_ret2
        exact ⟨rfl, up B1.out.b HB.out⟩
  · obtain ⟨m, hmm⟩ : ∃ m, Cl.turn n = m := ⟨_, rfl⟩
    have hm1 : m < 18446744073709551616 := by rw [← hmm]; exact Cl.turn_lt hi
    have hm2 : IntKind.u64.wrap (IntKind.u64.wrap n + 9223372036854775808) = (m : Int) := by
      unfold Cl.turn at hmm
      unfold Cl.I64 at hi
      rw [IntKind.wrap_u64, IntKind.wrap_u64]; omega
    have hx2 : str ([] ++ [1] ++ Cl.be m) = x := by rw [← hx, ← hmm]; rfl
    have HR := Lib.hid (fun k hk => shl_rest m k hk hm1)
    have HX := Lib.hid (fun v w => out_str w w1.heap.size ([] ++ [1] ++ Cl.be m) x hx2 v w)
    clear hx hmm hi hx2
    have CN := Lib.hid (fun w => rNumber true 3 w _ rfl)
    unfold tv at CN
    simp at CN
    go_wp2_with (at_builtin; refine wpList_app rfl _ _ rfl w1.heap.size _ ([]) rfl ((Own.nil w1 w1.heap.size).later (up_new _ _)) _ [1] rfl (rd_lit w1 _ _ 1 rfl rfl (by simp) (by simp; try omega)) (by simp; try omega) (by simp; try omega) ?_; intro v3 w3 o3 b3; have H3 := Lib.hid ((up_new w1 _).trans b3); have B3 := Lib.hid (B1.out.later H3.out); obtain ⟨⟨t0, t1⟩, ⟨c0, c1, c2⟩⟩ := B3.out.lies; simp only at c0 c1 c2; have z3 := H3.out.size)
    ((with_reducible refine (CN.out _).mono ?_); rintro e w2 ⟨rfl, b2⟩)
    have HO0 := Lib.hid (o3.later b2)
    have HB0 := Lib.hid (up H3.out b2)
    have B2 := Lib.hid (B1.out.later HB0.out)
    clear b2 t0 t1 c0 c1 c2
    obtain ⟨⟨t0, t1⟩, ⟨c0, c1, c2⟩⟩ := B2.out.lies
    simp only at c0 c1 c2
    go_wp2_with fail
    go_loopw [7, 8, 9] (fun v r i wr => ∃ j : Nat, j ≤ 8 ∧ i = .int .i64 j ∧ r = .int .u64 (m * 256 ^ j % 18446744073709551616 : Nat) ∧ Own wr w1.heap.size v ([] ++ [1] ++ (Cl.be m).take j) ∧ Below w1.heap.size w1 wr) (fun _ _ i _ => 8 - (intOf i).toNat)
    case atStart => exact ⟨0, by omega, rfl, by rw [Nat.pow_zero, Nat.mul_one, Nat.mod_eq_of_lt hm1], by simpa using HO0.out, HB0.out⟩
    case round =>
      clear t0 t1 c0 c1 c2
      obtain ⟨j, hj, rfl, rfl, ho, hb⟩ := hrel
      have hel : ((Cl.be m).take j).length ≤ 8 := by rw [List.length_take, Cl.be_len]; omega
      have hws := hb.size
      obtain ⟨a, c, rfl, -⟩ := ho.rd
      have HO := Lib.hid ho
      have HB := Lib.hid hb
      clear ho hb
      by_cases hlt : j < 8
      · obtain ⟨h1, h2⟩ := HR.out j hlt
        have hbb := Cl.be_byte m ((Cl.be m).getD j 0) (by rw [List.getD_eq_getElem?_getD, List.getElem?_eq_getElem (by rw [Cl.be_len]; omega)]; simp)
        have HSU := Lib.hid (take_snoc (Cl.be m) j (by rw [Cl.be_len]; exact hlt))
        have hqm : m * 256 ^ j % 18446744073709551616 < 18446744073709551616 := by omega
        obtain ⟨q', hq'⟩ : ∃ q', m * 256 ^ (j + 1) % 18446744073709551616 = q' := ⟨_, rfl⟩
        rw [hq'] at h2
        have HQ := Lib.hid hq'
        clear hq'
        generalize m * 256 ^ j % 18446744073709551616 = q at *
        generalize (Cl.be m).getD j 0 = y at *
        generalize (Cl.be m).take j = L at *
        have hq : (q : Int) / 72057594037927936 = (y : Int) := by omega
        have hq0 : 0 ≤ (q : Int) := by omega
        have hq1 : (q : Int) ≤ 18446744073709551615 := by omega
        have hq2 : IntKind.u64.wrap ((q : Int) * 256) = (q' : Int) := by rw [IntKind.wrap_u64]; omega
        have hy2 : IntKind.u8.wrap (y : Int) = (y : Int) := IntWalk.u8_in _ ⟨by omega, by omega⟩
        clear h1 h2
        go_wp2_with (at_builtin; refine wpList_app rfl _ _ rfl w1.heap.size _ ([] ++ [1] ++ L) rfl (HO.out.later (up_new _ _)) _ [y] rfl (rd_lit wr _ _ 1 rfl rfl (by simp) (by simp; try omega)) (by simp; try omega) (by simp; try omega) ?_; intro v5 w5 o5 b5)
        go_roundw
        case rel => exact ⟨j + 1, by omega, by go_num, by rw [HQ.out], by rw [HSU.out]; simpa [List.append_assoc] using o5, (HB.out.alloc hws _).trans b5⟩
        case measure => simp [intOf]; omega
      · have hlt' : ¬ (j : Int) < 8 := by omega
        have HT := Lib.hid (show [] ++ [1] ++ (Cl.be m).take j = [] ++ [1] ++ Cl.be m by rw [List.take_of_length_le (by rw [Cl.be_len]; omega)])
        generalize [] ++ [1] ++ (Cl.be m).take j = L at *
        have hcv := HX.out _ wr (by rw [← HT.out]; exact HO.out)
        go_wp2_with fail
        go_ret2
        exact ⟨rfl, up B1.out.b HB.out⟩
theorem rbNull (u : Bool) (k : Int) (n : Int) (s : ByteArray) (w : World) (hm : s.size ≤ 1000000) (he : Cl.chk u k ⟨true, n, s⟩ = 0) (x : ByteArray) (hx : str (Cl.bts u k ⟨true, n, s⟩) = x) : Calls Tryz.prog 52 #[tv u k, cv ⟨true, n, s⟩] w fun e w' => e = .returned (.tuple #[.string x, .int .i64 0]) ∧ Below w.heap.size w w' := by
  have hx2 : (⟨#[0]⟩ : ByteArray) = x := by rw [← hx]; rfl
  subst hx2
  clear hx
  have B0 := Lib.hid (BX.start w u k ⟨true, n, s⟩)
  have CC := Lib.hid (fun w => rCheck u k ⟨true, n, s⟩ w hm 0 he)
  unfold tv cv at CC
  unfold tv cv
  simp only at CC B0 ⊢
  clear he
  go_enter Tryz.func52, Tryz.ntmps52
  go_wp2_with fail
  ((with_reducible refine (CC.out _).mono ?_); rintro e w1 ⟨rfl, b1⟩)
  have B1 := Lib.hid (B0.out.later b1)
  clear b1
  obtain ⟨⟨t0, t1⟩, ⟨c0, c1, c2⟩⟩ := B1.out.lies
  simp only at c0 c1 c2
  go_wp2_with fail
  go_ret2
  exact ⟨rfl, B1.out.b⟩
theorem rbErr (u : Bool) (k : Int) (c : Cl.C) (w : World) (hm : c.s.size ≤ 1000000) (e0 : Nat) (he : Cl.chk u k c = e0) (h0 : e0 ≠ 0) : Calls Tryz.prog 52 #[tv u k, cv c] w fun e w' => e = .returned (.tuple #[.string ⟨#[]⟩, .int .i64 (e0 : Nat)]) ∧ Below w.heap.size w w' := by
  have B0 := Lib.hid (BX.start w u k c)
  have CC := Lib.hid (fun w => rCheck u k c w hm e0 he)
  have h1 : ((e0 : Int) != 0) = true := by simp; omega
  obtain ⟨c0, n, s⟩ := c
  unfold tv cv at CC ⊢
  simp only at CC B0 ⊢
  clear he h0 hm
  go_enter Tryz.func52, Tryz.ntmps52
  go_wp2_with fail
  ((with_reducible refine (CC.out _).mono ?_); rintro e w1 ⟨rfl, b1⟩)
  have B1 := Lib.hid (B0.out.later b1)
  clear b1
  go_wp2_with fail
  go_ret2
  exact ⟨rfl, B1.out.b⟩
theorem rBits (u : Bool) (k : Int) (c : Cl.C) (w : World) (hi : Cl.I64 c.n) (hm : c.s.size ≤ 1000000) (e0 : Nat) (he : Cl.chk u k c = e0) (x : ByteArray) (hx : (if e0 = 0 then str (Cl.bts u k c) else ⟨#[]⟩) = x) : Calls Tryz.prog 52 #[tv u k, cv c] w fun e w' => e = .returned (.tuple #[.string x, .int .i64 (e0 : Nat)]) ∧ Below w.heap.size w w' := by
  by_cases h0 : e0 = 0
  · subst h0
    rw [if_pos rfl] at hx
    obtain ⟨hk, hc⟩ := Cl.chk_ok he
    obtain ⟨c0, n, s⟩ := c
    cases c0
    · have hK : Cl.isK k ⟨false, n, s⟩ = true := by
        rcases Cl.of_parts hc with h | h
        · exact absurd h.1 (by simp)
        · exact h.2
      obtain ⟨h1, h2⟩ := Cl.may_le hk
      have : k = 1 ∨ k = 2 ∨ k = 3 ∨ k = 4 ∨ k = 5 := by omega
      rcases this with rfl | rfl | rfl | rfl | rfl
      · rcases ((isK_at hK).2.1 rfl).2 with hn | hn
        · simp only at hn
          subst hn
          exact rb1_0 u s w hm he x hx
        · simp only at hn
          subst hn
          exact rb1_1 u s w hm he x hx
      · exact rb2 u n s w hm he hi x hx
      · exact rb3 u n s w hm he hi x hx
      · exact rb4 u n s w hm he x hx
      · exact rb5 u n s w hm he x hx
    · exact rbNull u k n s w hm he x hx
  · rw [if_neg h0] at hx
    subst hx
    exact rbErr u k c w hm e0 he h0
end Go.Proofs.YtfplogjdcndohaaGreatDoor

/- The reference's run, bare and Unbits. -/
namespace Go.Proofs.YtfplogjdcndohaaGreatDoor
open Go.RowKit
set_option linter.unusedVariables false
set_option maxRecDepth 100000

set_option maxHeartbeats 4000000 in
theorem rRun (s : ByteArray) (w : World) (hm : s.size ≤ 100000) (x : List Nat) (n e0 : Nat) (hr : Cl.run (bl s) [] 0 = (x, n, e0)) :
    Calls Tryz.prog 94 #[.string s] w fun e w' => e = .returned (.tuple #[.string (str x), .int .i64 (n : Nat), .int .i64 (e0 : Nat)]) ∧ Below w.heap.size w w' := by
  have HR := Lib.hid hr
  have HN := Lib.hid (Own.nil w w.heap.size)
  have HW := Lib.hid (Below.refl w.heap.size w)
  clear hr
  go_enter Tryz.func94, Tryz.ntmps94
  go_wp2_with fail
  go_loopw [5, 6] (fun v i wr => ∃ (k : Nat) (o : List Nat), k ≤ s.size ∧ i = .int .i64 k ∧ o.length ≤ k ∧ Own wr w.heap.size v o ∧ Hid (Cl.run ((bl s).drop k) o k = (x, n, e0)) ∧ Below w.heap.size w wr) (fun _ i _ => s.size - (intOf i).toNat)
  case atStart => exact ⟨0, [], by omega, rfl, by simp, HN.out, HR, HW.out⟩
  case round =>
    obtain ⟨k, o, hk, rfl, hol, ho, HQ, hb⟩ := hrel
    have hws := hb.size
    obtain ⟨a, c, rfl, -⟩ := ho.rd
    have HO := Lib.hid ho
    have HB := Lib.hid hb
    clear ho hb
    by_cases hlt : k < s.size
    · have hq := HQ.out
      rw [drop_at (bl s) k (by rw [bl_length]; omega)] at hq
      have h4 := bl_at s k hlt
      have hyb := bl_byte s ((bl s).getD k 0) (by rw [List.getD_eq_getElem?_getD, List.getElem?_eq_getElem (by rw [bl_length]; omega)]; simp)
      by_cases hz : (bl s).getD k 0 = 0
      · rw [hz] at hq h4
        rw [Cl.run_zero] at hq
        clear hz hyb
        by_cases h1 : k + 1 = s.size
        · rw [List.drop_eq_nil_of_le (by rw [bl_length]; omega)] at hq
          simp only [Prod.mk.injEq] at hq
          obtain ⟨rfl, rfl, rfl⟩ := hq
          have h5 : (s.size : Int) ≤ (k : Int) + 1 := by omega
          go_wp2_with fail
          go_ret3
          exact ⟨rfl, HB.out⟩
        · have hlt2 : k + 1 < s.size := by omega
          rw [drop_at (bl s) (k + 1) (by rw [bl_length]; omega)] at hq
          simp only [] at hq
          have h5 : ¬ (s.size : Int) ≤ (k : Int) + 1 := by omega
          have h6 := bl_at s (k + 1) hlt2
          have hc := bl_byte s ((bl s).getD (k + 1) 0) (by rw [List.getD_eq_getElem?_getD, List.getElem?_eq_getElem (by rw [bl_length]; omega)]; simp)
          by_cases c0 : (bl s).getD (k + 1) 0 = 0
          · rw [if_pos c0] at hq
            simp only [Prod.mk.injEq] at hq
            obtain ⟨rfl, rfl, rfl⟩ := hq
            rw [c0] at h6
            have hcv := out_str w w.heap.size o (str o) rfl _ wr HO.out
            go_wp2_with fail
            go_ret3
            exact ⟨by rw [show ((k : Int) + 2) = (k : Int) + 1 + 1 by omega]; rfl, HB.out⟩
          · rw [if_neg c0] at hq
            by_cases c1 : (bl s).getD (k + 1) 0 = 255
            · rw [if_neg (by omega)] at hq
              rw [c1] at h6
              clear c1 c0 hc
              by_cases hf : o.length = 1024
              · rw [if_pos hf] at hq
                simp only [Prod.mk.injEq] at hq
                obtain ⟨rfl, rfl, rfl⟩ := hq
                have d5 : ((o.length : Int) == 1024) = true := by simp; omega
                clear hf
                go_wp2_with fail
                go_ret3
                exact ⟨rfl, HB.out⟩
              · rw [if_neg hf] at hq
                have d5 : ((o.length : Int) == 1024) = false := by simp; omega
                have HQ2 := Lib.hid hq
                clear hf hq HQ
                go_wp2_with (at_builtin; refine wpList_app rfl _ _ rfl w.heap.size _ (o) rfl (HO.out.later (up_new _ _)) _ [0] rfl (rd_lit wr _ _ 1 rfl rfl (by simp) (by simp; try omega)) (by simp; try omega) (by simp; try omega) ?_; intro v5 w5 o5 b5)
                go_roundw
                case rel => exact ⟨k + 2, o ++ [0], by omega, by go_num, by simp; omega, o5, HQ2, (HB.out.alloc hws _).trans b5⟩
                case measure => simp [intOf]; omega
            · rw [if_pos c1] at hq
              simp only [Prod.mk.injEq] at hq
              obtain ⟨rfl, rfl, rfl⟩ := hq
              generalize (bl s).getD (k + 1) 0 = y at *
              have d6 : ((y : Int) == 0) = false := by simp; omega
              have d7 : ((y : Int) != 255) = true := by simp; omega
              clear c0 c1
              go_wp2_with fail
              go_ret3
              exact ⟨rfl, HB.out⟩
      · rw [Cl.run_some _ _ _ _ hz] at hq
        generalize (bl s).getD k 0 = y at *
        have d4 : ((y : Int) == 0) = false := by simp; omega
        clear hz
        by_cases hf : o.length = 1024
        · rw [if_pos hf] at hq
          simp only [Prod.mk.injEq] at hq
          obtain ⟨rfl, rfl, rfl⟩ := hq
          have d5 : ((o.length : Int) == 1024) = true := by simp; omega
          clear hf
          go_wp2_with fail
          go_ret3
          exact ⟨rfl, HB.out⟩
        · rw [if_neg hf] at hq
          have d5 : ((o.length : Int) == 1024) = false := by simp; omega
          have HQ2 := Lib.hid hq
          clear hf hq HQ
          go_wp2_with (at_builtin; refine wpList_app rfl _ _ rfl w.heap.size _ (o) rfl (HO.out.later (up_new _ _)) _ [y] rfl (rd_lit wr _ _ 1 rfl rfl (by simp) (by simp; try omega)) (by simp; try omega) (by simp; try omega) ?_; intro v5 w5 o5 b5)
          go_roundw
          case rel => exact ⟨k + 1, o ++ [y], by omega, by go_num, by simp; omega, o5, HQ2, (HB.out.alloc hws _).trans b5⟩
          case measure => simp [intOf]; omega
    · have hq := HQ.out
      rw [List.drop_eq_nil_of_le (by rw [bl_length]; omega), Cl.run_nil] at hq
      simp only [Prod.mk.injEq] at hq
      obtain ⟨rfl, rfl, rfl⟩ := hq
      have hlt' : ¬ (k : Int) < (s.size : Int) := by omega
      go_wp2_with fail
      go_ret3
      exact ⟨rfl, HB.out⟩
/-- What the reference's bare answers: where it fails, only the error is said. -/
def RbPost (w : World) (r : Cl.C × Nat × Nat) (e : Ending) (w' : World) : Prop := ∃ c n, e = .returned (.tuple #[cv c, .int .i64 n, .int .i64 (r.2.2 : Nat)]) ∧ (r.2.2 = 0 → c = r.1 ∧ n = (r.2.1 : Nat)) ∧ Below w.heap.size w w'
set_option maxHeartbeats 2000000 in
theorem rBare1 (u : Bool) (s : ByteArray) (w : World) (hm : s.size ≤ 100000) : Calls Tryz.prog 68 #[tv u 1, .string s] w fun e w' => RbPost w (Cl.bare 1 (bl s)) e w' := by
  have B0 := Lib.hid (BX.start w u 1 Cl.empty)
  unfold Cl.empty at B0
  simp only at B0
  unfold tv
  by_cases h0 : bl s = []
  · have hr : Cl.bare 1 (bl s) = (Cl.empty, 0, 3) := by unfold Cl.bare; rw [if_pos rfl, if_pos h0]
    rw [hr]
    have hs : s.size = 0 := bl_nil.1 h0
    have q0 : ((s.size : Int) == 0) = true := by rw [hs]; rfl
    clear h0 hr
    go_enter Tryz.func68, Tryz.ntmps68
    go_wp2_with fail
    have BF := BX.start w u 1 ⟨false, 0, ⟨#[]⟩⟩
    simp only at BF
    exact bodyPost_ret (ret3 rfl _ _ (w.heap.size + 1) ⟨false, 0, ⟨#[]⟩⟩ rfl BF.c.heap) rfl ⟨_, _, rfl, fun h => absurd h (by decide), BF.b⟩
  · have hs : 0 < s.size := Nat.pos_of_ne_zero fun e => h0 (bl_nil.2 e)
    have q0 : ((s.size : Int) == 0) = false := by rw [beq_eq_false_iff_ne]; omega
    have h4 := bl_at s 0 hs
    have hyb := Utf.getD_byte (bl_byte s) 0
    have hr : Cl.bare 1 (bl s) = if (bl s).getD 0 0 ≤ 1 then (⟨false, ((bl s).getD 0 0 : Nat), ⟨#[]⟩⟩, 1, 0) else (Cl.empty, 0, 4) := by
      unfold Cl.bare; rw [if_pos rfl, if_neg h0]
    rw [hr]
    clear h0 hr
    generalize (bl s).getD 0 0 = y at *
    by_cases h1 : y ≤ 1
    · rw [if_pos h1]
      have hi : ¬ (1 : Int) < (y : Int) := by omega
      go_enter Tryz.func68, Tryz.ntmps68
      go_wp2_with fail
      have BF := BX.start w u 1 ⟨false, (y : Int), ⟨#[]⟩⟩
      simp only at BF
      exact bodyPost_ret (ret3 rfl _ _ (w.heap.size + 1) ⟨false, (y : Int), ⟨#[]⟩⟩ rfl BF.c.heap) rfl ⟨_, _, rfl, fun _ => ⟨rfl, rfl⟩, BF.b⟩
    · rw [if_neg h1]
      have hi : (1 : Int) < (y : Int) := by omega
      go_enter Tryz.func68, Tryz.ntmps68
      go_wp2_with fail
      have BF := BX.start w u 1 ⟨false, 0, ⟨#[]⟩⟩
      simp only at BF
      exact bodyPost_ret (ret3 rfl _ _ (w.heap.size + 1) ⟨false, 0, ⟨#[]⟩⟩ rfl BF.c.heap) rfl ⟨_, _, rfl, fun h => absurd h (by decide), BF.b⟩
set_option maxHeartbeats 2000000 in
theorem rBare4 (u : Bool) (s : ByteArray) (w : World) (hm : s.size ≤ 100000) : Calls Tryz.prog 68 #[tv u 4, .string s] w fun e w' => RbPost w (Cl.bare 4 (bl s)) e w' := by
  have B0 := Lib.hid (BX.start w u 4 Cl.empty)
  unfold Cl.empty at B0
  simp only at B0
  unfold tv
  obtain ⟨x, n, e0, hr⟩ : ∃ x n e0, Cl.run (bl s) [] 0 = (x, n, e0) := ⟨_, _, _, rfl⟩
  have CN := Lib.hid (fun w => rNumber u 4 w false (by decide))
  have CR := Lib.hid (fun w => rRun s w hm x n e0 hr)
  unfold tv at CN
  by_cases he : e0 = 0
  · subst he
    have hx := Cl.run_good s.size (bl s) [] 0 x n (by rw [bl_length]; exact Nat.le_refl _) (by simp) hr
    have hlen : x.length ≤ 1024 := by obtain ⟨_, _, _, _, _, h⟩ := hx; exact h
    clear hx
    obtain ⟨q, hq⟩ : ∃ q, Cl.isK 4 ⟨false, 0, str x⟩ = q := ⟨_, rfl⟩
    have CO := Lib.hid (fun w => rOf u 4 ⟨false, 0, str x⟩ w q (by decide) (by simp only; rw [str_size]; omega) (by unfold Cl.of Cl.none?; rw [hq]; simp))
    have hb : Cl.bare 4 (bl s) = if q = true then (⟨false, 0, str x⟩, n, 0) else (Cl.empty, 0, 4) := by
      unfold Cl.bare; rw [if_neg (by decide), if_neg (by decide), hr]; simp [hq]
    unfold tv cv at CO
    simp only at CO
    clear hr hlen hq
    rw [hb]
    cases q
    · rw [if_neg (by decide)]
      clear hb
      go_enter Tryz.func68, Tryz.ntmps68
      go_wp2_with fail
      ((with_reducible refine (CN.out _).mono ?_); rintro e w1 ⟨rfl, b1⟩)
      have B1 := Lib.hid (B0.out.later b1)
      clear b1
      obtain ⟨⟨t0, t1⟩, ⟨c0, c1, c2⟩⟩ := B1.out.lies
      obtain ⟨f0, f1, f2⟩ := B1.out.free
      simp only at c0 c1 c2
      go_wp2_with fail
      ((with_reducible refine (CR.out _).mono ?_); rintro e w2 ⟨rfl, b2⟩)
      have B2 := Lib.hid (B1.out.later b2)
      clear b2
      obtain ⟨⟨t0, t1⟩, ⟨c0, c1, c2⟩⟩ := B2.out.lies
      obtain ⟨f0, f1, f2⟩ := B2.out.free
      simp only at c0 c1 c2
      go_wp2_with fail
      ((with_reducible refine (CO.out _).mono ?_); rintro e w3 ⟨rfl, b3⟩)
      have B3 := Lib.hid (B2.out.later b3)
      clear b3
      obtain ⟨⟨t0, t1⟩, ⟨c0, c1, c2⟩⟩ := B3.out.lies
      obtain ⟨f0, f1, f2⟩ := B3.out.free
      simp only at c0 c1 c2
      go_wp2_with fail
      exact bodyPost_ret (ret3 rfl _ _ (w.heap.size + 1) _ rfl (B3.out.put _ _ _).1) rfl ⟨_, _, rfl, fun h => absurd h (by decide), (B3.out.put _ _ _).2⟩
    · rw [if_pos rfl]
      clear hb
      go_enter Tryz.func68, Tryz.ntmps68
      go_wp2_with fail
      ((with_reducible refine (CN.out _).mono ?_); rintro e w1 ⟨rfl, b1⟩)
      have B1 := Lib.hid (B0.out.later b1)
      clear b1
      obtain ⟨⟨t0, t1⟩, ⟨c0, c1, c2⟩⟩ := B1.out.lies
      obtain ⟨f0, f1, f2⟩ := B1.out.free
      simp only at c0 c1 c2
      go_wp2_with fail
      ((with_reducible refine (CR.out _).mono ?_); rintro e w2 ⟨rfl, b2⟩)
      have B2 := Lib.hid (B1.out.later b2)
      clear b2
      obtain ⟨⟨t0, t1⟩, ⟨c0, c1, c2⟩⟩ := B2.out.lies
      obtain ⟨f0, f1, f2⟩ := B2.out.free
      simp only at c0 c1 c2
      go_wp2_with fail
      ((with_reducible refine (CO.out _).mono ?_); rintro e w3 ⟨rfl, b3⟩)
      have B3 := Lib.hid (B2.out.later b3)
      clear b3
      obtain ⟨⟨t0, t1⟩, ⟨c0, c1, c2⟩⟩ := B3.out.lies
      obtain ⟨f0, f1, f2⟩ := B3.out.free
      simp only at c0 c1 c2
      go_wp2_with fail
      exact bodyPost_ret (ret3 rfl _ _ (w.heap.size + 1) _ rfl (B3.out.put _ _ _).1) rfl ⟨_, _, rfl, fun _ => ⟨rfl, rfl⟩, (B3.out.put _ _ _).2⟩
  · have hb : Cl.bare 4 (bl s) = (Cl.empty, 0, e0) := by
      unfold Cl.bare; rw [if_neg (by decide), if_neg (by decide), hr]; simp [he]
    rw [hb]
    have d0 : ((e0 : Int) == 0) = false := by rw [beq_eq_false_iff_ne]; omega
    have HE := Lib.hid he
    clear hb hr he
    go_enter Tryz.func68, Tryz.ntmps68
    go_wp2_with fail
    ((with_reducible refine (CN.out _).mono ?_); rintro e w1 ⟨rfl, b1⟩)
    have B1 := Lib.hid (B0.out.later b1)
    clear b1
    obtain ⟨⟨t0, t1⟩, ⟨c0, c1, c2⟩⟩ := B1.out.lies
    obtain ⟨f0, f1, f2⟩ := B1.out.free
    simp only at c0 c1 c2
    go_wp2_with fail
    ((with_reducible refine (CR.out _).mono ?_); rintro e w2 ⟨rfl, b2⟩)
    have B2 := Lib.hid (B1.out.later b2)
    clear b2
    obtain ⟨⟨t0, t1⟩, ⟨c0, c1, c2⟩⟩ := B2.out.lies
    obtain ⟨f0, f1, f2⟩ := B2.out.free
    simp only at c0 c1 c2
    go_wp2_with fail
    exact bodyPost_ret (ret3 rfl _ _ (w.heap.size + 1) _ rfl (B2.out.put _ _ _).1) rfl ⟨_, _, rfl, fun h => absurd h HE.out, (B2.out.put _ _ _).2⟩
set_option maxHeartbeats 2000000 in
theorem rBare5 (u : Bool) (s : ByteArray) (w : World) (hm : s.size ≤ 100000) : Calls Tryz.prog 68 #[tv u 5, .string s] w fun e w' => RbPost w (Cl.bare 5 (bl s)) e w' := by
  have B0 := Lib.hid (BX.start w u 5 Cl.empty)
  unfold Cl.empty at B0
  simp only at B0
  unfold tv
  obtain ⟨x, n, e0, hr⟩ : ∃ x n e0, Cl.run (bl s) [] 0 = (x, n, e0) := ⟨_, _, _, rfl⟩
  have CN := Lib.hid (fun w => rNumber u 5 w false (by decide))
  have CR := Lib.hid (fun w => rRun s w hm x n e0 hr)
  unfold tv at CN
  by_cases he : e0 = 0
  · subst he
    have hx := Cl.run_good s.size (bl s) [] 0 x n (by rw [bl_length]; exact Nat.le_refl _) (by simp) hr
    have hlen : x.length ≤ 1024 := by obtain ⟨_, _, _, _, _, h⟩ := hx; exact h
    clear hx
    obtain ⟨q, hq⟩ : ∃ q, Cl.isK 5 ⟨false, 0, str x⟩ = q := ⟨_, rfl⟩
    have CO := Lib.hid (fun w => rOf u 5 ⟨false, 0, str x⟩ w q (by decide) (by simp only; rw [str_size]; omega) (by unfold Cl.of Cl.none?; rw [hq]; simp))
    have hb : Cl.bare 5 (bl s) = if q = true then (⟨false, 0, str x⟩, n, 0) else (Cl.empty, 0, 4) := by
      unfold Cl.bare; rw [if_neg (by decide), if_neg (by decide), hr]; simp [hq]
    unfold tv cv at CO
    simp only at CO
    clear hr hlen hq
    rw [hb]
    cases q
    · rw [if_neg (by decide)]
      clear hb
      go_enter Tryz.func68, Tryz.ntmps68
      go_wp2_with fail
      ((with_reducible refine (CN.out _).mono ?_); rintro e w1 ⟨rfl, b1⟩)
      have B1 := Lib.hid (B0.out.later b1)
      clear b1
      obtain ⟨⟨t0, t1⟩, ⟨c0, c1, c2⟩⟩ := B1.out.lies
      obtain ⟨f0, f1, f2⟩ := B1.out.free
      simp only at c0 c1 c2
      go_wp2_with fail
      ((with_reducible refine (CR.out _).mono ?_); rintro e w2 ⟨rfl, b2⟩)
      have B2 := Lib.hid (B1.out.later b2)
      clear b2
      obtain ⟨⟨t0, t1⟩, ⟨c0, c1, c2⟩⟩ := B2.out.lies
      obtain ⟨f0, f1, f2⟩ := B2.out.free
      simp only at c0 c1 c2
      go_wp2_with fail
      ((with_reducible refine (CO.out _).mono ?_); rintro e w3 ⟨rfl, b3⟩)
      have B3 := Lib.hid (B2.out.later b3)
      clear b3
      obtain ⟨⟨t0, t1⟩, ⟨c0, c1, c2⟩⟩ := B3.out.lies
      obtain ⟨f0, f1, f2⟩ := B3.out.free
      simp only at c0 c1 c2
      go_wp2_with fail
      exact bodyPost_ret (ret3 rfl _ _ (w.heap.size + 1) _ rfl (B3.out.put _ _ _).1) rfl ⟨_, _, rfl, fun h => absurd h (by decide), (B3.out.put _ _ _).2⟩
    · rw [if_pos rfl]
      clear hb
      go_enter Tryz.func68, Tryz.ntmps68
      go_wp2_with fail
      ((with_reducible refine (CN.out _).mono ?_); rintro e w1 ⟨rfl, b1⟩)
      have B1 := Lib.hid (B0.out.later b1)
      clear b1
      obtain ⟨⟨t0, t1⟩, ⟨c0, c1, c2⟩⟩ := B1.out.lies
      obtain ⟨f0, f1, f2⟩ := B1.out.free
      simp only at c0 c1 c2
      go_wp2_with fail
      ((with_reducible refine (CR.out _).mono ?_); rintro e w2 ⟨rfl, b2⟩)
      have B2 := Lib.hid (B1.out.later b2)
      clear b2
      obtain ⟨⟨t0, t1⟩, ⟨c0, c1, c2⟩⟩ := B2.out.lies
      obtain ⟨f0, f1, f2⟩ := B2.out.free
      simp only at c0 c1 c2
      go_wp2_with fail
      ((with_reducible refine (CO.out _).mono ?_); rintro e w3 ⟨rfl, b3⟩)
      have B3 := Lib.hid (B2.out.later b3)
      clear b3
      obtain ⟨⟨t0, t1⟩, ⟨c0, c1, c2⟩⟩ := B3.out.lies
      obtain ⟨f0, f1, f2⟩ := B3.out.free
      simp only at c0 c1 c2
      go_wp2_with fail
      exact bodyPost_ret (ret3 rfl _ _ (w.heap.size + 1) _ rfl (B3.out.put _ _ _).1) rfl ⟨_, _, rfl, fun _ => ⟨rfl, rfl⟩, (B3.out.put _ _ _).2⟩
  · have hb : Cl.bare 5 (bl s) = (Cl.empty, 0, e0) := by
      unfold Cl.bare; rw [if_neg (by decide), if_neg (by decide), hr]; simp [he]
    rw [hb]
    have d0 : ((e0 : Int) == 0) = false := by rw [beq_eq_false_iff_ne]; omega
    have HE := Lib.hid he
    clear hb hr he
    go_enter Tryz.func68, Tryz.ntmps68
    go_wp2_with fail
    ((with_reducible refine (CN.out _).mono ?_); rintro e w1 ⟨rfl, b1⟩)
    have B1 := Lib.hid (B0.out.later b1)
    clear b1
    obtain ⟨⟨t0, t1⟩, ⟨c0, c1, c2⟩⟩ := B1.out.lies
    obtain ⟨f0, f1, f2⟩ := B1.out.free
    simp only at c0 c1 c2
    go_wp2_with fail
    ((with_reducible refine (CR.out _).mono ?_); rintro e w2 ⟨rfl, b2⟩)
    have B2 := Lib.hid (B1.out.later b2)
    clear b2
    obtain ⟨⟨t0, t1⟩, ⟨c0, c1, c2⟩⟩ := B2.out.lies
    obtain ⟨f0, f1, f2⟩ := B2.out.free
    simp only at c0 c1 c2
    go_wp2_with fail
    exact bodyPost_ret (ret3 rfl _ _ (w.heap.size + 1) _ rfl (B2.out.put _ _ _).1) rfl ⟨_, _, rfl, fun h => absurd h HE.out, (B2.out.put _ _ _).2⟩
set_option maxHeartbeats 2000000 in
theorem rBare2 (u : Bool) (s : ByteArray) (w : World) (hm : s.size ≤ 100000) : Calls Tryz.prog 68 #[tv u 2, .string s] w fun e w' => RbPost w (Cl.bare 2 (bl s)) e w' := by
  have B0 := Lib.hid (BX.start w u 2 Cl.empty)
  unfold Cl.empty at B0
  simp only at B0
  unfold tv
  have CN := Lib.hid (fun w => rNumber u 2 w true (by decide))
  unfold tv at CN
  by_cases h8 : s.size < 8
  · have hb : Cl.bare 2 (bl s) = (Cl.empty, 0, 3) := by
      unfold Cl.bare; rw [if_neg (by decide), if_pos (by decide), if_pos (by rw [bl_length]; exact h8)]
    rw [hb]
    have h8i : (s.size : Int) < 8 := by omega
    clear hb
    go_enter Tryz.func68, Tryz.ntmps68
    go_wp2_with fail
    ((with_reducible refine (CN.out _).mono ?_); rintro e w1 ⟨rfl, b1⟩)
    have B1 := Lib.hid (B0.out.later b1)
    clear b1
    obtain ⟨⟨t0, t1⟩, ⟨c0, c1, c2⟩⟩ := B1.out.lies
    obtain ⟨f0, f1, f2⟩ := B1.out.free
    simp only at c0 c1 c2
    go_wp2_with fail
    exact bodyPost_ret (ret3 rfl _ _ (w.heap.size + 1) _ rfl (B1.out.put _ _ _).1) rfl ⟨_, _, rfl, fun h => absurd h (by decide), (B1.out.put _ _ _).2⟩
  · have h8i : ¬ (s.size : Int) < 8 := by omega
    have hk : ∀ k, k ≤ 8 → Cl.num8 ((bl s).take k) < 256 ^ k := fun k hk => by
      exact num8_lt k ((bl s).take k) (by rw [List.length_take, bl_length, Nat.min_eq_left (by omega)]) (fun x hx => bl_byte s x (List.mem_of_mem_take hx))
    have hs : ∀ k, k < 8 → Cl.num8 ((bl s).take (k + 1)) = 256 * Cl.num8 ((bl s).take k) + (bl s).getD k 0 := fun k h => by
      rw [take_snoc _ _ (by rw [bl_length]; omega), num8_snoc]
    obtain ⟨m, hm8⟩ : ∃ m, Cl.num8 ((bl s).take 8) = m := ⟨_, rfl⟩
    have hz := un_turn m (by rw [← hm8]; exact hk 8 (by omega))
    have hml : m < 18446744073709551616 := by rw [← hm8]; exact hk 8 (by omega)
    obtain ⟨q, hq⟩ : ∃ q, Cl.isK 2 ⟨false, (m : Int) - 9223372036854775808, ⟨#[]⟩⟩ = q := ⟨_, rfl⟩
    have hb : Cl.bare 2 (bl s) = if q = true then (⟨false, (m : Int) - 9223372036854775808, ⟨#[]⟩⟩, 8, 0) else (Cl.empty, 0, 4) := by
      unfold Cl.bare; rw [if_neg (by decide), if_pos (by decide), if_neg (by rw [bl_length]; exact h8)]; simp only [hm8, hq]
    have CO := Lib.hid (fun w => rOf u 2 ⟨false, (m : Int) - 9223372036854775808, ⟨#[]⟩⟩ w q (by decide) (show (⟨#[]⟩ : ByteArray).size ≤ 1000000 by decide) (by unfold Cl.of Cl.none?; rw [hq]; simp))
    unfold tv cv at CO
    simp only at CO
    rw [hb]
    have HK := Lib.hid hk
    have HS := Lib.hid hs
    have HM := Lib.hid hm8
    clear hk hs hm8 hq hb h8
    go_enter Tryz.func68, Tryz.ntmps68
    go_wp2_with fail
    ((with_reducible refine (CN.out _).mono ?_); rintro e w1 ⟨rfl, b1⟩)
    have B1 := Lib.hid (B0.out.later b1)
    clear b1
    obtain ⟨⟨t0, t1⟩, ⟨c0, c1, c2⟩⟩ := B1.out.lies
    simp only at c0 c1 c2
    go_wp2_with fail
    go_loopw [7, 8] (fun a i wr => ∃ j : Nat, j ≤ 8 ∧ i = .int .i64 j ∧ a = .int .u64 (Cl.num8 ((bl s).take j) : Nat) ∧ Hid (BX w u 2 ⟨false, 0, ⟨#[]⟩⟩ wr)) (fun _ i _ => 8 - (intOf i).toNat)
    case atStart => exact ⟨0, by omega, rfl, rfl, B1⟩
    case round =>
      clear t0 t1 c0 c1 c2
      obtain ⟨j, hj, rfl, rfl, HX⟩ := hrel
      by_cases hlt : j < 8
      · have h1 := HK.out j (by omega)
        have h2 := HS.out j hlt
        have h4 := bl_at s j (by omega)
        have hyb := Utf.getD_byte (bl_byte s) j
        have h7 : Cl.num8 ((bl s).take j) < 72057594037927936 := Nat.lt_of_lt_of_le h1 (by
          have := Nat.pow_le_pow_right (show 0 < 256 by omega) (show j ≤ 7 by omega)
          omega)
        have H2 := Lib.hid h2
        clear h1 h2 hz
        generalize Cl.num8 ((bl s).take j) = p at *
        generalize (bl s).getD j 0 = y at *
        have hq0 : 0 ≤ (p : Int) := by omega
        have hq1 : (p : Int) ≤ 72057594037927935 := by omega
        have hj1 : (j : Int) < (s.size : Int) := by omega
        have hw1 : IntKind.u64.wrap (256 * (p : Int)) = 256 * (p : Int) := by rw [IntKind.wrap_u64]; omega
        have hw2 : IntKind.u64.wrap (256 * (p : Int) + (y : Int)) = 256 * (p : Int) + (y : Int) := by rw [IntKind.wrap_u64]; omega
        go_wp2_with fail
        go_roundw
        case rel => exact ⟨j + 1, by omega, by go_num, by rw [H2.out]; simp, HX⟩
        case measure => simp [intOf]; omega
      · obtain rfl : j = 8 := by omega
        rw [HM.out]
        have hxw := HX.out
        obtain ⟨⟨t0, t1⟩, ⟨c0, c1, c2⟩⟩ := hxw.lies
        simp only at c0 c1 c2
        have BN := Lib.hid (hxw.later (up_new wr (.cells #[.bool false, .int .i64 ((m : Int) - 9223372036854775808), .string ⟨#[]⟩] 34)))
        have VN := Lib.hid (CV.new wr false ((m : Int) - 9223372036854775808) ⟨#[]⟩)
        clear hxw t0 t1 c0 c1 c2
        obtain ⟨⟨t0, t1⟩, ⟨c0, c1, c2⟩⟩ := BN.out.lies
        obtain ⟨v0, v1, v2⟩ := VN.out.lie
        simp only at c0 c1 c2 v0 v1 v2
        go_wp2_with fail
        ((with_reducible refine (CO.out _).mono ?_); rintro e w4 ⟨rfl, b4⟩)
        have B4 := Lib.hid (BN.out.later b4)
        have V4 := Lib.hid (VN.out.later b4)
        clear b4 t0 t1 c0 c1 c2 v0 v1 v2
        obtain ⟨⟨t0, t1⟩, ⟨c0, c1, c2⟩⟩ := B4.out.lies
        obtain ⟨f0, f1, f2⟩ := B4.out.free
        obtain ⟨v0, v1, v2⟩ := V4.out.lie
        simp only at c0 c1 c2 v0 v1 v2
        cases q
        · go_wp2_with fail
          exact bodyPost_ret (ret3 rfl _ _ (w.heap.size + 1) _ rfl (B4.out.put _ _ _).1) rfl ⟨_, _, rfl, fun h => absurd h (by decide), (B4.out.put _ _ _).2⟩
        · go_wp2_with fail
          exact bodyPost_ret (ret3 rfl _ _ (w.heap.size + 1) _ rfl (B4.out.put _ _ _).1) rfl ⟨_, _, rfl, fun _ => ⟨rfl, rfl⟩, (B4.out.put _ _ _).2⟩
set_option maxHeartbeats 2000000 in
theorem rBare3 (u : Bool) (s : ByteArray) (w : World) (hm : s.size ≤ 100000) : Calls Tryz.prog 68 #[tv u 3, .string s] w fun e w' => RbPost w (Cl.bare 3 (bl s)) e w' := by
  have B0 := Lib.hid (BX.start w u 3 Cl.empty)
  unfold Cl.empty at B0
  simp only at B0
  unfold tv
  have CN := Lib.hid (fun w => rNumber u 3 w true (by decide))
  unfold tv at CN
  by_cases h8 : s.size < 8
  · have hb : Cl.bare 3 (bl s) = (Cl.empty, 0, 3) := by
      unfold Cl.bare; rw [if_neg (by decide), if_pos (by decide), if_pos (by rw [bl_length]; exact h8)]
    rw [hb]
    have h8i : (s.size : Int) < 8 := by omega
    clear hb
    go_enter Tryz.func68, Tryz.ntmps68
    go_wp2_with fail
    ((with_reducible refine (CN.out _).mono ?_); rintro e w1 ⟨rfl, b1⟩)
    have B1 := Lib.hid (B0.out.later b1)
    clear b1
    obtain ⟨⟨t0, t1⟩, ⟨c0, c1, c2⟩⟩ := B1.out.lies
    obtain ⟨f0, f1, f2⟩ := B1.out.free
    simp only at c0 c1 c2
    go_wp2_with fail
    exact bodyPost_ret (ret3 rfl _ _ (w.heap.size + 1) _ rfl (B1.out.put _ _ _).1) rfl ⟨_, _, rfl, fun h => absurd h (by decide), (B1.out.put _ _ _).2⟩
  · have h8i : ¬ (s.size : Int) < 8 := by omega
    have hk : ∀ k, k ≤ 8 → Cl.num8 ((bl s).take k) < 256 ^ k := fun k hk => by
      exact num8_lt k ((bl s).take k) (by rw [List.length_take, bl_length, Nat.min_eq_left (by omega)]) (fun x hx => bl_byte s x (List.mem_of_mem_take hx))
    have hs : ∀ k, k < 8 → Cl.num8 ((bl s).take (k + 1)) = 256 * Cl.num8 ((bl s).take k) + (bl s).getD k 0 := fun k h => by
      rw [take_snoc _ _ (by rw [bl_length]; omega), num8_snoc]
    obtain ⟨m, hm8⟩ : ∃ m, Cl.num8 ((bl s).take 8) = m := ⟨_, rfl⟩
    have hz := un_turn m (by rw [← hm8]; exact hk 8 (by omega))
    have hml : m < 18446744073709551616 := by rw [← hm8]; exact hk 8 (by omega)
    obtain ⟨q, hq⟩ : ∃ q, Cl.isK 3 ⟨false, (m : Int) - 9223372036854775808, ⟨#[]⟩⟩ = q := ⟨_, rfl⟩
    have hb : Cl.bare 3 (bl s) = if q = true then (⟨false, (m : Int) - 9223372036854775808, ⟨#[]⟩⟩, 8, 0) else (Cl.empty, 0, 4) := by
      unfold Cl.bare; rw [if_neg (by decide), if_pos (by decide), if_neg (by rw [bl_length]; exact h8)]; simp only [hm8, hq]
    have CO := Lib.hid (fun w => rOf u 3 ⟨false, (m : Int) - 9223372036854775808, ⟨#[]⟩⟩ w q (by decide) (show (⟨#[]⟩ : ByteArray).size ≤ 1000000 by decide) (by unfold Cl.of Cl.none?; rw [hq]; simp))
    unfold tv cv at CO
    simp only at CO
    rw [hb]
    have HK := Lib.hid hk
    have HS := Lib.hid hs
    have HM := Lib.hid hm8
    clear hk hs hm8 hq hb h8
    go_enter Tryz.func68, Tryz.ntmps68
    go_wp2_with fail
    ((with_reducible refine (CN.out _).mono ?_); rintro e w1 ⟨rfl, b1⟩)
    have B1 := Lib.hid (B0.out.later b1)
    clear b1
    obtain ⟨⟨t0, t1⟩, ⟨c0, c1, c2⟩⟩ := B1.out.lies
    simp only at c0 c1 c2
    go_wp2_with fail
    go_loopw [7, 8] (fun a i wr => ∃ j : Nat, j ≤ 8 ∧ i = .int .i64 j ∧ a = .int .u64 (Cl.num8 ((bl s).take j) : Nat) ∧ Hid (BX w u 3 ⟨false, 0, ⟨#[]⟩⟩ wr)) (fun _ i _ => 8 - (intOf i).toNat)
    case atStart => exact ⟨0, by omega, rfl, rfl, B1⟩
    case round =>
      clear t0 t1 c0 c1 c2
      obtain ⟨j, hj, rfl, rfl, HX⟩ := hrel
      by_cases hlt : j < 8
      · have h1 := HK.out j (by omega)
        have h2 := HS.out j hlt
        have h4 := bl_at s j (by omega)
        have hyb := Utf.getD_byte (bl_byte s) j
        have h7 : Cl.num8 ((bl s).take j) < 72057594037927936 := Nat.lt_of_lt_of_le h1 (by
          have := Nat.pow_le_pow_right (show 0 < 256 by omega) (show j ≤ 7 by omega)
          omega)
        have H2 := Lib.hid h2
        clear h1 h2 hz
        generalize Cl.num8 ((bl s).take j) = p at *
        generalize (bl s).getD j 0 = y at *
        have hq0 : 0 ≤ (p : Int) := by omega
        have hq1 : (p : Int) ≤ 72057594037927935 := by omega
        have hj1 : (j : Int) < (s.size : Int) := by omega
        have hw1 : IntKind.u64.wrap (256 * (p : Int)) = 256 * (p : Int) := by rw [IntKind.wrap_u64]; omega
        have hw2 : IntKind.u64.wrap (256 * (p : Int) + (y : Int)) = 256 * (p : Int) + (y : Int) := by rw [IntKind.wrap_u64]; omega
        go_wp2_with fail
        go_roundw
        case rel => exact ⟨j + 1, by omega, by go_num, by rw [H2.out]; simp, HX⟩
        case measure => simp [intOf]; omega
      · obtain rfl : j = 8 := by omega
        rw [HM.out]
        have hxw := HX.out
        obtain ⟨⟨t0, t1⟩, ⟨c0, c1, c2⟩⟩ := hxw.lies
        simp only at c0 c1 c2
        have BN := Lib.hid (hxw.later (up_new wr (.cells #[.bool false, .int .i64 ((m : Int) - 9223372036854775808), .string ⟨#[]⟩] 34)))
        have VN := Lib.hid (CV.new wr false ((m : Int) - 9223372036854775808) ⟨#[]⟩)
        clear hxw t0 t1 c0 c1 c2
        obtain ⟨⟨t0, t1⟩, ⟨c0, c1, c2⟩⟩ := BN.out.lies
        obtain ⟨v0, v1, v2⟩ := VN.out.lie
        simp only at c0 c1 c2 v0 v1 v2
        go_wp2_with fail
        ((with_reducible refine (CO.out _).mono ?_); rintro e w4 ⟨rfl, b4⟩)
        have B4 := Lib.hid (BN.out.later b4)
        have V4 := Lib.hid (VN.out.later b4)
        clear b4 t0 t1 c0 c1 c2 v0 v1 v2
        obtain ⟨⟨t0, t1⟩, ⟨c0, c1, c2⟩⟩ := B4.out.lies
        obtain ⟨f0, f1, f2⟩ := B4.out.free
        obtain ⟨v0, v1, v2⟩ := V4.out.lie
        simp only at c0 c1 c2 v0 v1 v2
        cases q
        · go_wp2_with fail
          exact bodyPost_ret (ret3 rfl _ _ (w.heap.size + 1) _ rfl (B4.out.put _ _ _).1) rfl ⟨_, _, rfl, fun h => absurd h (by decide), (B4.out.put _ _ _).2⟩
        · go_wp2_with fail
          exact bodyPost_ret (ret3 rfl _ _ (w.heap.size + 1) _ rfl (B4.out.put _ _ _).1) rfl ⟨_, _, rfl, fun _ => ⟨rfl, rfl⟩, (B4.out.put _ _ _).2⟩
end Go.Proofs.YtfplogjdcndohaaGreatDoor

/- The reference's Unbits. -/
namespace Go.Proofs.YtfplogjdcndohaaGreatDoor
open Go.RowKit
set_option linter.unusedVariables false
set_option maxRecDepth 100000

theorem rBareAll (u : Bool) (k : Int) (s : ByteArray) (w : World) (hm : s.size ≤ 100000) (hk : Cl.may k = true) : Calls Tryz.prog 68 #[tv u k, .string s] w fun e w' => RbPost w (Cl.bare k (bl s)) e w' := by
  obtain ⟨k0, k5⟩ := Cl.may_le hk
  rcases (show k = 1 ∨ k = 2 ∨ k = 3 ∨ k = 4 ∨ k = 5 by omega) with rfl | rfl | rfl | rfl | rfl
  · exact rBare1 u s w hm
  · exact rBare2 u s w hm
  · exact rBare3 u s w hm
  · exact rBare4 u s w hm
  · exact rBare5 u s w hm
set_option maxHeartbeats 8000000 in
theorem rUnbF (k : Int) (s s2 : ByteArray) (w : World) (hm : s2.size ≤ 100000) (hk : Cl.may k = true) (hcut : ∀ w, (Instr.slice 9 (.string s) (some (.int .i64 0)) none none).run Tryz.prog w = .ok (.string s2) w) :
    Calls Tryz.prog 55 #[tv false k, .string s] w fun e w' => UbPost w (Cl.more false (Cl.bare k (bl s2))) e w' := by
  have B0 := Lib.hid (BX.start w false k Cl.empty)
  unfold Cl.empty at B0
  simp only at B0
  have HM := Lib.hid (fun w => rMay false k w true hk)
  have HBB := Lib.hid (fun w => rBareAll false k s2 w hm hk)
  obtain ⟨⟨r1, m, e0⟩, hr⟩ : ∃ r, Cl.bare k (bl s2) = r := ⟨_, rfl⟩
  have HML := Lib.hid (fun (he : e0 = 0) => show m ≤ 100000 from by
    have h := (Cl.bare_good k (bl s2) (bl_byte s2) hk r1 m (by rw [hr, he])).2.2.1
    rw [bl_length] at h; omega)
  have HE := Lib.hid (fun (he : e0 = 0) => show Cl.more false (r1, m, e0) = (r1, m, 0) from by subst he; unfold Cl.more; simp)
  have HF := Lib.hid (fun (he : ¬ e0 = 0) => show Cl.more false (r1, m, e0) = (Cl.empty, 0, e0) from by unfold Cl.more; rw [if_pos he])
  rw [hr] at HBB ⊢
  unfold RbPost tv cv at HBB
  unfold tv at HM ⊢
  unfold UbPost
  clear hr hm hk
  go_enter Tryz.func55, Tryz.ntmps55
  go_wp2_with fail
  generalize ((w.alloc (.cells #[.int .i64 k, .bool false] 54)).alloc (.cells #[.bool false, .int .i64 0, .string ⟨#[]⟩] 34)) = w1 at *
  ((with_reducible refine (HM.out w1).mono ?_); rintro e wb ⟨rfl, b1⟩)
  have B1 := Lib.hid (B0.out.later b1)
  clear b1 B0 HM
  obtain ⟨t0, t1⟩ := B1.out.tlie
  go_wp2_with fail
  have SK := Lib.hid (fun w1 (hb : Below wb.heap.size wb w1) => (⟨hb, (B1.out.later hb).tlie⟩ : Below wb.heap.size wb w1 ∧ _))
  have C1 := Lib.hid (fun w1 (hb : Below wb.heap.size wb w1) => (HBB.out w1).mono (fun (e' : Ending) w' ⟨c, n, h1, h2, h3⟩ => (⟨c, n, h1, h2, up hb h3, h3⟩ : ∃ (c : Cl.C) (n : Int), e' = Ending.returned (.tuple #[.agg #[.bool c.u, .int .i64 c.n, .string c.s], .int .i64 n, .int .i64 (e0 : Nat)]) ∧ (e0 = 0 → c = r1 ∧ n = (m : Nat)) ∧ Below wb.heap.size wb w' ∧ Below w1.heap.size w1 w')))
  have XN := Lib.hid (fun w' (hb : Below (wb.alloc (.cells #[.bool false, .int .i64 0, .string ⟨#[]⟩] 34)).drew.heap.size (wb.alloc (.cells #[.bool false, .int .i64 0, .string ⟨#[]⟩] 34)).drew w') =>
    ((show CV (wb.alloc (.cells #[.bool false, .int .i64 0, .string ⟨#[]⟩] 34)).drew wb.heap.size ⟨false, 0, ⟨#[]⟩⟩ from CV.new wb false 0 ⟨#[]⟩).later hb))
  go_region_held3 (fun w' => Below wb.heap.size wb w' ∧ (w'.cell? ⟨w.heap.size, 0, none⟩ = some (.int .i64 k) ∧ w'.cell? ⟨w.heap.size, 1, none⟩ = some (.bool false)))
    (first | exact SK.out _ (Below.refl _ _).drew | exact SK.out _ (Below.refl _ _) | exact SK.out _ HA.out | exact SK.out _ (box_new _ _) | exact SK.out _ (up (Below.refl _ _).drew (box_new _ _)) | exact SK.out _ (up HA.out (box_new _ _)) | exact SK.out _ (put_below HA.out.size (up HA.out (box_new _ _)) _ _ _) | exact SK.out _ (put_below (Nat.le_refl _) HA.out _ _ _) | fail "keep")
    ((first
      | (go_at_call 68; (with_reducible refine (C1.out _ (Below.refl _ _).drew).mono ?_); rintro e wA ⟨⟨cu, cn, cs⟩, n, rfl, hcn, hA, hN⟩; have HA := Lib.hid hA; have HCN := Lib.hid hcn; clear hA hN hcn)
      | (go_at_call 68; (with_reducible refine (C1.out _ (box_new _ _).drew).mono ?_); rintro e wA ⟨⟨cu, cn, cs⟩, n, rfl, hcn, hA, hN⟩; have XA := Lib.hid (XN.out _ hN); obtain ⟨m0, m1, m2⟩ := XA.out.lie; obtain ⟨g0, g1, g2⟩ := XA.out.free; have HA := Lib.hid hA; have HCN := Lib.hid hcn; clear hA hN hcn)))
  · rename_i hHeld; clear hHeld
    have BL := Lib.hid (up HA.out (box_new wA (.cells #[.bool cu, .int .i64 cn, .string cs] 34)))
    have Z8 := Lib.hid (CV.new wA cu cn cs)
    clear SK C1 XN HBB HA t0 t1
    have B8 := Lib.hid (B1.out.later BL.out)
    clear BL
    obtain ⟨z0, z1, z2⟩ := Z8.out.lie
    obtain ⟨f0, f1, f2⟩ := B8.out.free
    obtain ⟨y0, y1, y2⟩ := B8.out.clie
    simp only at z0 z1 z2 y0 y1 y2
    by_cases he : e0 = 0
    · subst he
      obtain ⟨hc, hn⟩ := HCN.out rfl
      subst hn
      obtain ⟨rfl, rfl, rfl⟩ : cu = r1.u ∧ cn = r1.n ∧ cs = r1.s := by rw [← hc]; exact ⟨rfl, rfl, rfl⟩
      have hmn := HML.out rfl
      have HP := Lib.hid (B8.out.put r1.u r1.n r1.s)
      have HE0 := Lib.hid (HE.out rfl)
      clear HE HF HML
      clear hc
      go_wp2_with fail
      exact bodyPost_ret (ret3 rfl _ _ (w.heap.size + 1) r1 rfl HP.out.1) rfl ⟨by rw [HE0.out]; rfl, HP.out.2⟩
    · have HP := Lib.hid (B8.out.put false 0 ⟨#[]⟩)
      have he1 : ((e0 : Int) != 0) = true := by simpa using he
      have HQ := Lib.hid (HF.out he)
      clear he HE HF HML
      go_wp2_with fail
      exact bodyPost_ret (ret3 rfl _ _ (w.heap.size + 1) ⟨false, 0, ⟨#[]⟩⟩ rfl HP.out.1) rfl ⟨by rw [HQ.out]; rfl, HP.out.2⟩
  · rename_i hHeld; clear hHeld
    have BL := Lib.hid (put_below (Nat.le_refl _) HA.out (.bool cu) (.int .i64 cn) (.string cs))
    have Z8 := Lib.hid (XA.out.put cu cn cs)
    clear SK C1 XN HBB HA XA m0 m1 m2 g0 g1 g2 t0 t1
    have B8 := Lib.hid (B1.out.later BL.out)
    clear BL
    obtain ⟨z0, z1, z2⟩ := Z8.out.lie
    obtain ⟨f0, f1, f2⟩ := B8.out.free
    obtain ⟨y0, y1, y2⟩ := B8.out.clie
    simp only at z0 z1 z2 y0 y1 y2
    by_cases he : e0 = 0
    · subst he
      obtain ⟨hc, hn⟩ := HCN.out rfl
      subst hn
      obtain ⟨rfl, rfl, rfl⟩ : cu = r1.u ∧ cn = r1.n ∧ cs = r1.s := by rw [← hc]; exact ⟨rfl, rfl, rfl⟩
      have hmn := HML.out rfl
      have HP := Lib.hid (B8.out.put r1.u r1.n r1.s)
      have HE0 := Lib.hid (HE.out rfl)
      clear HE HF HML
      clear hc
      go_wp2_with fail
      exact bodyPost_ret (ret3 rfl _ _ (w.heap.size + 1) r1 rfl HP.out.1) rfl ⟨by rw [HE0.out]; rfl, HP.out.2⟩
    · have HP := Lib.hid (B8.out.put false 0 ⟨#[]⟩)
      have he1 : ((e0 : Int) != 0) = true := by simpa using he
      have HQ := Lib.hid (HF.out he)
      clear he HE HF HML
      go_wp2_with fail
      exact bodyPost_ret (ret3 rfl _ _ (w.heap.size + 1) ⟨false, 0, ⟨#[]⟩⟩ rfl HP.out.1) rfl ⟨by rw [HQ.out]; rfl, HP.out.2⟩
set_option maxHeartbeats 8000000 in
theorem rUnbT (k : Int) (s s2 : ByteArray) (w : World) (hm : s2.size ≤ 100000) (hk : Cl.may k = true) (h1 : 1 ≤ s.size) (h2 : (bl s).getD 0 0 = 1) (hcut : ∀ w, (Instr.slice 9 (.string s) (some (.int .i64 1)) none none).run Tryz.prog w = .ok (.string s2) w) :
    Calls Tryz.prog 55 #[tv true k, .string s] w fun e w' => UbPost w (Cl.more true (Cl.bare k (bl s2))) e w' := by
  have B0 := Lib.hid (BX.start w true k Cl.empty)
  unfold Cl.empty at B0
  simp only at B0
  have HM := Lib.hid (fun w => rMay true k w true hk)
  have HBB := Lib.hid (fun w => rBareAll true k s2 w hm hk)
  obtain ⟨⟨r1, m, e0⟩, hr⟩ : ∃ r, Cl.bare k (bl s2) = r := ⟨_, rfl⟩
  have HML := Lib.hid (fun (he : e0 = 0) => show m ≤ 100000 from by
    have h := (Cl.bare_good k (bl s2) (bl_byte s2) hk r1 m (by rw [hr, he])).2.2.1
    rw [bl_length] at h; omega)
  have HE := Lib.hid (fun (he : e0 = 0) => show Cl.more true (r1, m, e0) = (r1, 1 + m, 0) from by subst he; unfold Cl.more; simp)
  have HF := Lib.hid (fun (he : ¬ e0 = 0) => show Cl.more true (r1, m, e0) = (Cl.empty, 0, e0) from by unfold Cl.more; rw [if_pos he])
  rw [hr] at HBB ⊢
  unfold RbPost tv cv at HBB
  unfold tv at HM ⊢
  unfold UbPost
  clear hr hm hk
  have h4 := bl_at s 0 (by omega)
  rw [h2] at h4
  have hs0 : ((s.size : Int) == 0) = false := by rw [beq_eq_false_iff_ne]; omega
  clear h2
  go_enter Tryz.func55, Tryz.ntmps55
  go_wp2_with fail
  generalize ((w.alloc (.cells #[.int .i64 k, .bool true] 54)).alloc (.cells #[.bool false, .int .i64 0, .string ⟨#[]⟩] 34)) = w1 at *
  ((with_reducible refine (HM.out w1).mono ?_); rintro e wb ⟨rfl, b1⟩)
  have B1 := Lib.hid (B0.out.later b1)
  clear b1 B0 HM
  obtain ⟨t0, t1⟩ := B1.out.tlie
  go_wp2_with fail
  have SK := Lib.hid (fun w1 (hb : Below wb.heap.size wb w1) => (⟨hb, (B1.out.later hb).tlie⟩ : Below wb.heap.size wb w1 ∧ _))
  have C1 := Lib.hid (fun w1 (hb : Below wb.heap.size wb w1) => (HBB.out w1).mono (fun (e' : Ending) w' ⟨c, n, h1, h2, h3⟩ => (⟨c, n, h1, h2, up hb h3, h3⟩ : ∃ (c : Cl.C) (n : Int), e' = Ending.returned (.tuple #[.agg #[.bool c.u, .int .i64 c.n, .string c.s], .int .i64 n, .int .i64 (e0 : Nat)]) ∧ (e0 = 0 → c = r1 ∧ n = (m : Nat)) ∧ Below wb.heap.size wb w' ∧ Below w1.heap.size w1 w')))
  have XN := Lib.hid (fun w' (hb : Below (wb.alloc (.cells #[.bool false, .int .i64 0, .string ⟨#[]⟩] 34)).drew.heap.size (wb.alloc (.cells #[.bool false, .int .i64 0, .string ⟨#[]⟩] 34)).drew w') =>
    ((show CV (wb.alloc (.cells #[.bool false, .int .i64 0, .string ⟨#[]⟩] 34)).drew wb.heap.size ⟨false, 0, ⟨#[]⟩⟩ from CV.new wb false 0 ⟨#[]⟩).later hb))
  go_region_held3 (fun w' => Below wb.heap.size wb w' ∧ (w'.cell? ⟨w.heap.size, 0, none⟩ = some (.int .i64 k) ∧ w'.cell? ⟨w.heap.size, 1, none⟩ = some (.bool true)))
    (first | exact SK.out _ (Below.refl _ _).drew | exact SK.out _ (Below.refl _ _) | exact SK.out _ HA.out | exact SK.out _ (box_new _ _) | exact SK.out _ (up (Below.refl _ _).drew (box_new _ _)) | exact SK.out _ (up HA.out (box_new _ _)) | exact SK.out _ (put_below HA.out.size (up HA.out (box_new _ _)) _ _ _) | exact SK.out _ (put_below (Nat.le_refl _) HA.out _ _ _) | fail "keep")
    ((first
      | (go_at_call 68; (with_reducible refine (C1.out _ (Below.refl _ _).drew).mono ?_); rintro e wA ⟨⟨cu, cn, cs⟩, n, rfl, hcn, hA, hN⟩; have HA := Lib.hid hA; have HCN := Lib.hid hcn; clear hA hN hcn)
      | (go_at_call 68; (with_reducible refine (C1.out _ (box_new _ _).drew).mono ?_); rintro e wA ⟨⟨cu, cn, cs⟩, n, rfl, hcn, hA, hN⟩; have XA := Lib.hid (XN.out _ hN); obtain ⟨m0, m1, m2⟩ := XA.out.lie; obtain ⟨g0, g1, g2⟩ := XA.out.free; have HA := Lib.hid hA; have HCN := Lib.hid hcn; clear hA hN hcn)))
  · rename_i hHeld; clear hHeld
    have BL := Lib.hid (up HA.out (box_new wA (.cells #[.bool cu, .int .i64 cn, .string cs] 34)))
    have Z8 := Lib.hid (CV.new wA cu cn cs)
    clear SK C1 XN HBB HA t0 t1
    have B8 := Lib.hid (B1.out.later BL.out)
    clear BL
    obtain ⟨z0, z1, z2⟩ := Z8.out.lie
    obtain ⟨f0, f1, f2⟩ := B8.out.free
    obtain ⟨y0, y1, y2⟩ := B8.out.clie
    simp only at z0 z1 z2 y0 y1 y2
    by_cases he : e0 = 0
    · subst he
      obtain ⟨hc, hn⟩ := HCN.out rfl
      subst hn
      obtain ⟨rfl, rfl, rfl⟩ : cu = r1.u ∧ cn = r1.n ∧ cs = r1.s := by rw [← hc]; exact ⟨rfl, rfl, rfl⟩
      have hmn := HML.out rfl
      have HP := Lib.hid (B8.out.put r1.u r1.n r1.s)
      have HE0 := Lib.hid (HE.out rfl)
      clear HE HF HML
      clear hc
      go_wp2_with fail
      exact bodyPost_ret (ret3 rfl _ _ (w.heap.size + 1) r1 rfl HP.out.1) rfl ⟨by rw [HE0.out]; rfl, HP.out.2⟩
    · have HP := Lib.hid (B8.out.put false 0 ⟨#[]⟩)
      have he1 : ((e0 : Int) != 0) = true := by simpa using he
      have HQ := Lib.hid (HF.out he)
      clear he HE HF HML
      go_wp2_with fail
      exact bodyPost_ret (ret3 rfl _ _ (w.heap.size + 1) ⟨false, 0, ⟨#[]⟩⟩ rfl HP.out.1) rfl ⟨by rw [HQ.out]; rfl, HP.out.2⟩
  · rename_i hHeld; clear hHeld
    have BL := Lib.hid (put_below (Nat.le_refl _) HA.out (.bool cu) (.int .i64 cn) (.string cs))
    have Z8 := Lib.hid (XA.out.put cu cn cs)
    clear SK C1 XN HBB HA XA m0 m1 m2 g0 g1 g2 t0 t1
    have B8 := Lib.hid (B1.out.later BL.out)
    clear BL
    obtain ⟨z0, z1, z2⟩ := Z8.out.lie
    obtain ⟨f0, f1, f2⟩ := B8.out.free
    obtain ⟨y0, y1, y2⟩ := B8.out.clie
    simp only at z0 z1 z2 y0 y1 y2
    by_cases he : e0 = 0
    · subst he
      obtain ⟨hc, hn⟩ := HCN.out rfl
      subst hn
      obtain ⟨rfl, rfl, rfl⟩ : cu = r1.u ∧ cn = r1.n ∧ cs = r1.s := by rw [← hc]; exact ⟨rfl, rfl, rfl⟩
      have hmn := HML.out rfl
      have HP := Lib.hid (B8.out.put r1.u r1.n r1.s)
      have HE0 := Lib.hid (HE.out rfl)
      clear HE HF HML
      clear hc
      go_wp2_with fail
      exact bodyPost_ret (ret3 rfl _ _ (w.heap.size + 1) r1 rfl HP.out.1) rfl ⟨by rw [HE0.out]; rfl, HP.out.2⟩
    · have HP := Lib.hid (B8.out.put false 0 ⟨#[]⟩)
      have he1 : ((e0 : Int) != 0) = true := by simpa using he
      have HQ := Lib.hid (HF.out he)
      clear he HE HF HML
      go_wp2_with fail
      exact bodyPost_ret (ret3 rfl _ _ (w.heap.size + 1) ⟨false, 0, ⟨#[]⟩⟩ rfl HP.out.1) rfl ⟨by rw [HQ.out]; rfl, HP.out.2⟩
set_option maxHeartbeats 4000000 in
theorem rUnbNo (u : Bool) (k : Int) (s : ByteArray) (w : World) (hk : Cl.may k = false) : Calls Tryz.prog 55 #[tv u k, .string s] w fun e w' => UbPost w (Cl.empty, 0, 2) e w' := by
  have B0 := Lib.hid (BX.start w u k Cl.empty)
  unfold Cl.empty at B0
  simp only at B0
  have HM := Lib.hid (fun w => rMay u k w false hk)
  unfold tv at HM ⊢
  clear hk
  go_enter Tryz.func55, Tryz.ntmps55
  go_wp2_with fail
  generalize ((w.alloc (.cells #[.int .i64 k, .bool u] 54)).alloc (.cells #[.bool false, .int .i64 0, .string ⟨#[]⟩] 34)) = w1 at *
  ((with_reducible refine (HM.out w1).mono ?_); rintro e wb ⟨rfl, b1⟩)
  have B1 := Lib.hid (B0.out.later b1)
  clear b1 B0 HM
  obtain ⟨f0, f1, f2⟩ := B1.out.free
  obtain ⟨y0, y1, y2⟩ := B1.out.clie
  simp only at y0 y1 y2
  have HP := Lib.hid (B1.out.put false 0 ⟨#[]⟩)
  go_wp2_with fail
  exact bodyPost_ret (ret3 rfl _ _ (w.heap.size + 1) ⟨false, 0, ⟨#[]⟩⟩ rfl HP.out.1) rfl ⟨rfl, HP.out.2⟩
set_option maxHeartbeats 4000000 in
theorem rUnbE0 (k : Int) (s : ByteArray) (w : World) (hk : Cl.may k = true) (h0 : bl s = []) : Calls Tryz.prog 55 #[tv true k, .string s] w fun e w' => UbPost w (Cl.empty, 0, 3) e w' := by
  have B0 := Lib.hid (BX.start w true k Cl.empty)
  unfold Cl.empty at B0
  simp only at B0
  have HM := Lib.hid (fun w => rMay true k w true hk)
  unfold tv at HM ⊢
  clear hk
  have hs : s.size = 0 := bl_nil.1 h0
  have q0 : ((s.size : Int) == 0) = true := by rw [hs]; rfl
  clear h0
  go_enter Tryz.func55, Tryz.ntmps55
  go_wp2_with fail
  generalize ((w.alloc (.cells #[.int .i64 k, .bool true] 54)).alloc (.cells #[.bool false, .int .i64 0, .string ⟨#[]⟩] 34)) = w1 at *
  ((with_reducible refine (HM.out w1).mono ?_); rintro e wb ⟨rfl, b1⟩)
  have B1 := Lib.hid (B0.out.later b1)
  clear b1 B0 HM
  obtain ⟨t0, t1⟩ := B1.out.tlie
  obtain ⟨f0, f1, f2⟩ := B1.out.free
  obtain ⟨y0, y1, y2⟩ := B1.out.clie
  simp only at y0 y1 y2
  have HP := Lib.hid (B1.out.put false 0 ⟨#[]⟩)
  go_wp2_with fail
  exact bodyPost_ret (ret3 rfl _ _ (w.heap.size + 1) ⟨false, 0, ⟨#[]⟩⟩ rfl HP.out.1) rfl ⟨rfl, HP.out.2⟩
set_option maxHeartbeats 4000000 in
theorem rUnbE1 (k : Int) (s : ByteArray) (w : World) (hk : Cl.may k = true) (h0 : bl s ≠ []) (h1 : (bl s).getD 0 0 = 0) : Calls Tryz.prog 55 #[tv true k, .string s] w fun e w' => UbPost w (Cl.nothing, 1, 0) e w' := by
  have B0 := Lib.hid (BX.start w true k Cl.empty)
  unfold Cl.empty at B0
  simp only at B0
  have HM := Lib.hid (fun w => rMay true k w true hk)
  unfold tv at HM ⊢
  clear hk
  have hs : 0 < s.size := Nat.pos_of_ne_zero fun e => h0 (bl_nil.2 e)
  have q0 : ((s.size : Int) == 0) = false := by rw [beq_eq_false_iff_ne]; omega
  have h4 := bl_at s 0 hs
  rw [h1] at h4
  clear h0 h1
  go_enter Tryz.func55, Tryz.ntmps55
  go_wp2_with fail
  generalize ((w.alloc (.cells #[.int .i64 k, .bool true] 54)).alloc (.cells #[.bool false, .int .i64 0, .string ⟨#[]⟩] 34)) = w1 at *
  ((with_reducible refine (HM.out w1).mono ?_); rintro e wb ⟨rfl, b1⟩)
  have B1 := Lib.hid (B0.out.later b1)
  clear b1 B0 HM
  obtain ⟨t0, t1⟩ := B1.out.tlie
  obtain ⟨f0, f1, f2⟩ := B1.out.free
  obtain ⟨y0, y1, y2⟩ := B1.out.clie
  simp only at y0 y1 y2
  have HP := Lib.hid (B1.out.put true 0 ⟨#[]⟩)
  go_wp2_with fail
  exact bodyPost_ret (ret3 rfl _ _ (w.heap.size + 1) ⟨true, 0, ⟨#[]⟩⟩ rfl HP.out.1) rfl ⟨rfl, HP.out.2⟩
set_option maxHeartbeats 4000000 in
theorem rUnbE4 (k : Int) (s : ByteArray) (w : World) (hk : Cl.may k = true) (h0 : bl s ≠ []) (h1 : (bl s).getD 0 0 ≠ 0) (h2 : (bl s).getD 0 0 ≠ 1) : Calls Tryz.prog 55 #[tv true k, .string s] w fun e w' => UbPost w (Cl.empty, 0, 4) e w' := by
  have B0 := Lib.hid (BX.start w true k Cl.empty)
  unfold Cl.empty at B0
  simp only at B0
  have HM := Lib.hid (fun w => rMay true k w true hk)
  unfold tv at HM ⊢
  clear hk
  have hs : 0 < s.size := Nat.pos_of_ne_zero fun e => h0 (bl_nil.2 e)
  have q0 : ((s.size : Int) == 0) = false := by rw [beq_eq_false_iff_ne]; omega
  have h4 := bl_at s 0 hs
  have hyb := Utf.getD_byte (bl_byte s) 0
  generalize (bl s).getD 0 0 = y at *
  have q1 : ((y : Int) == 0) = false := by rw [beq_eq_false_iff_ne]; omega
  have q2 : ((y : Int) != 1) = true := by rw [bne_iff_ne]; omega
  clear h0 h1 h2
  go_enter Tryz.func55, Tryz.ntmps55
  go_wp2_with fail
  generalize ((w.alloc (.cells #[.int .i64 k, .bool true] 54)).alloc (.cells #[.bool false, .int .i64 0, .string ⟨#[]⟩] 34)) = w1 at *
  ((with_reducible refine (HM.out w1).mono ?_); rintro e wb ⟨rfl, b1⟩)
  have B1 := Lib.hid (B0.out.later b1)
  clear b1 B0 HM
  obtain ⟨t0, t1⟩ := B1.out.tlie
  obtain ⟨f0, f1, f2⟩ := B1.out.free
  obtain ⟨y0, y1, y2⟩ := B1.out.clie
  simp only at y0 y1 y2
  have HP := Lib.hid (B1.out.put false 0 ⟨#[]⟩)
  go_wp2_with fail
  exact bodyPost_ret (ret3 rfl _ _ (w.heap.size + 1) ⟨false, 0, ⟨#[]⟩⟩ rfl HP.out.1) rfl ⟨rfl, HP.out.2⟩
theorem rUnbits (u : Bool) (k : Int) (s : ByteArray) (w : World) (hm : s.size ≤ 100000) (r : Cl.C × Nat × Nat) (hr : Cl.unb u k (bl s) = r) : Calls Tryz.prog 55 #[tv u k, .string s] w fun e w' => UbPost w r e w' := by
  cases hk : Cl.may k with
  | false =>
    unfold Cl.unb at hr
    rw [if_pos hk] at hr
    rw [← hr]; exact rUnbNo u k s w hk
  | true =>
    cases u with
    | false =>
      have h : Cl.unb false k (bl s) = Cl.more false (Cl.bare k (bl s)) := by unfold Cl.unb; rw [if_neg (by rw [hk]; simp)]; rfl
      rw [← hr, h]
      exact rUnbF k s s w hm hk (cut_all s)
    | true =>
      unfold Cl.unb at hr
      rw [if_neg (by rw [hk]; simp), if_pos rfl] at hr
      by_cases h0 : bl s = []
      · rw [if_pos h0] at hr
        rw [← hr]; exact rUnbE0 k s w hk h0
      · rw [if_neg h0] at hr
        by_cases h1 : (bl s).getD 0 0 = 0
        · rw [if_pos h1] at hr
          rw [← hr]; exact rUnbE1 k s w hk h0 h1
        · rw [if_neg h1] at hr
          by_cases h2 : (bl s).getD 0 0 = 1
          · rw [if_pos h2] at hr
            have hs : 1 ≤ s.size := by
              rcases Nat.eq_zero_or_pos s.size with h | h
              · exact absurd (bl_nil.2 h) h0
              · exact h
            have hm2 : (s.extract 1 s.size).size ≤ 100000 := by rw [ByteArray.size_extract]; omega
            rw [← bl_from s 1] at hr
            rw [← hr]
            exact rUnbT k s _ w hm2 hk hs h2 (cut_one s hs)
          · rw [if_neg h2] at hr
            rw [← hr]; exact rUnbE4 k s w hk h0 h1 h2
end Go.Proofs.YtfplogjdcndohaaGreatDoor

/- The reference's functions of rows. -/
namespace Go.Proofs.YtfplogjdcndohaaGreatDoor
open Go.RowKit Go.Sort
set_option linter.unusedVariables false
set_option maxRecDepth 100000

set_option maxHeartbeats 8000000 in
theorem rowCheckR (kv rv : Value) (ks : List Co) (r : List Cl.C) (w : World) (hk : RdK w w.heap.size kv ks) (hr : RdC w w.heap.size rv r) (hl : r.length ≤ 1000000) (hm : ∀ c ∈ r, c.s.size ≤ 1000000) (d : Int) (hd : Rw.chkR (tys ks) r = d) :
    Calls Tryz.prog 20 #[kv, rv] w fun e w' => e = .returned (.int .i64 d) ∧ Below w.heap.size w w' := by
  have HK := Lib.hid hk
  have HR := Lib.hid hr
  have HM := Lib.hid hm
  obtain ⟨ka, kc, rfl, _⟩ := Gn.Rd.form hk
  obtain ⟨ra, rc, rfl, _⟩ := Gn.Rd.form hr
  have hlk := Gn.Rd.len' hk
  clear hk hr hm
  by_cases hn : r.length = ks.length
  · have hn1 : ((r.length : Int) != (ks.length : Nat)) = false := by simp; omega
    have e : Rw.fnz (Rw.chkL (tys ks) r) = d := by
      unfold Rw.chkR at hd
      rw [tys_len, if_neg (by omega)] at hd
      exact hd
    have HE0 := Lib.hid e
    have HL := Lib.hid (show (Rw.chkL (tys ks) r).length = r.length by unfold Rw.chkL; rw [List.length_zipWith, tys_len]; omega)
    have HN := Lib.hid hn
    clear hd e hn
    go_enter Tryz.func20, Tryz.ntmps20
    go_wp2_with fail
    go_loopw [5] (fun i wr => ∃ k : Nat, k ≤ r.length ∧ i = .int .i64 (k : Nat) ∧ Hid (Rw.fnz ((Rw.chkL (tys ks) r).drop k) = d) ∧ Hid (Below w.heap.size w wr)) (fun i _ => r.length - (intOf i).toNat)
    case atStart => exact ⟨0, by omega, by rfl, HE0, Lib.hid (Below.refl _ _)⟩
    case round =>
      obtain ⟨k, hk, rfl, HE, HU⟩ := hrel
      by_cases hlt : k < r.length
      · have hlt1 : (k : Int) < r.length := by omega
        have hlt2 : (k : Int) < ks.length := by have := HN.out; omega
        obtain ⟨x, hx⟩ : ∃ x, r[k]? = some x := ⟨_, List.getElem?_eq_getElem hlt⟩
        obtain ⟨d1, hdd⟩ : ∃ d1, (Rw.chkL (tys ks) r)[k]? = some d1 := ⟨_, List.getElem?_eq_getElem (by rw [HL.out]; exact hlt)⟩
        obtain ⟨t, ht, hd1⟩ := chkL_at hx hdd
        obtain ⟨b1, o1, rfl, p0, p1, p2⟩ := rdC_cells HR.out HU.out hx
        obtain ⟨b2, o2, rfl, s0, s1⟩ := rdK_type HK.out HU.out ht
        have HE2 := Lib.hid ((Rw.fnz_drop hdd).symm.trans HE.out)
        have HC := Lib.hid (fun w => rCheck t.u t.k x w (HM.out x (List.mem_of_getElem? hx)) _ rfl)
        rw [hd1] at HC
        obtain ⟨xu, xn, xs⟩ := x
        unfold cv tv at HC
        simp only at p0 p1 p2 HC
        clear hx hdd ht hd1 HE
        have q0 := fun d os => cell_regrown p0 d os
        have q1 := fun d os => cell_regrown p1 d os
        have q2 := fun d os => cell_regrown p2 d os
        have q3 := fun d os => cell_regrown s0 d os
        have q4 := fun d os => cell_regrown s1 d os
        have Q := Lib.hid (fun d os => Calls.regrown_of (HC.out (grow (redrawn wr d) os)))
        clear p0 p1 p2 s0 s1 HC
        go_wp2_with fail
        refine wp_region_quiet_below (by kernel_rfl) (by kernel_rfl) ?_
        iterate 11 (quiet_step (first | with_reducible exact Q.out _ _))
        refine wpQuiet_nil ?_
        intro _ hw'
        obtain ⟨⟨dq, osq⟩, hw''⟩ := hw'
        have HU2 := Lib.hid (up HU.out (show Below wr.heap.size wr _ from hw'' ▸ below_regrown wr dq osq))
        clear hw'' HU Q
        by_cases hz : d1 = 0
        · subst hz
          rw [if_neg (by omega)] at HE2
          go_wp2_with fail
          go_roundw
          case rel => exact ⟨k + 1, by omega, by go_num, HE2, HU2⟩
          case measure => simp [intOf]; omega
        · rw [if_pos hz] at HE2
          have hz1 : (d1 != 0) = true := by simpa using hz
          obtain rfl : d1 = d := HE2.out
          go_wp2_with fail
          go_ret
          exact ⟨rfl, HU2.out⟩
      · have hlt1 : ¬ (k : Int) < r.length := by omega
        obtain rfl : (0 : Int) = d := (Rw.fnz_end (by rw [HL.out]; omega)).symm.trans HE.out
        go_wp2_with fail
        go_ret
        exact ⟨rfl, HU.out⟩
  · have hn1 : ((r.length : Int) != (ks.length : Nat)) = true := by simp; omega
    obtain rfl : (100 : Int) = d := by
      unfold Rw.chkR at hd
      rw [tys_len, if_pos hn] at hd
      exact hd
    clear hd hn HK HR HM
    go_enter Tryz.func20, Tryz.ntmps20
    go_wp2_with fail
    go_ret
    exact ⟨rfl, Below.refl _ _⟩
set_option maxHeartbeats 8000000 in
theorem rowCompareR (av bv : Value) (a b : List Cl.C) (w : World) (ha : RdC w w.heap.size av a) (hb : RdC w w.heap.size bv b) (hl : a.length ≤ 1000000) (d : Int) (hd : Rw.cmps a b = d) :
    Calls Tryz.prog 23 #[av, bv] w fun e w' => e = .returned (.int .i64 d) ∧ Below w.heap.size w w' := by
  have HA := Lib.hid ha
  have HB := Lib.hid hb
  obtain ⟨aa, ac, rfl, _⟩ := Gn.Rd.form ha
  obtain ⟨ba, bc, rfl, _⟩ := Gn.Rd.form hb
  have HL := Lib.hid (show (Rw.cmpL a b).length = min a.length b.length by unfold Rw.cmpL; rw [List.length_zipWith])
  have HD := Lib.hid hd
  clear ha hb hd
  go_enter Tryz.func23, Tryz.ntmps23
  go_wp2_with fail
  go_loopw [5] (fun i wr => ∃ k : Nat, k ≤ a.length ∧ k ≤ b.length ∧ i = .int .i64 (k : Nat) ∧ Hid (Rw.fnz ((Rw.cmpL a b).drop k) = Rw.fnz (Rw.cmpL a b)) ∧ Hid (Below w.heap.size w wr)) (fun i _ => a.length - (intOf i).toNat)
  case atStart => exact ⟨0, by omega, by omega, by rfl, Lib.hid rfl, Lib.hid (Below.refl _ _)⟩
  case round =>
    obtain ⟨k, hk, hk2, rfl, HE, HU⟩ := hrel
    by_cases hlt : k < a.length
    · have hlt1 : (k : Int) < a.length := by omega
      by_cases hlt' : k < b.length
      · have hlt2 : (k : Int) < b.length := by omega
        obtain ⟨x, hx⟩ : ∃ x, a[k]? = some x := ⟨_, List.getElem?_eq_getElem hlt⟩
        obtain ⟨d1, hdd⟩ : ∃ d1, (Rw.cmpL a b)[k]? = some d1 := ⟨_, List.getElem?_eq_getElem (by rw [HL.out]; omega)⟩
        obtain ⟨y, hy, hd1⟩ := cmpL_at hx hdd
        obtain ⟨b1, o1, rfl, p0, p1, p2⟩ := rdC_cells HA.out HU.out hx
        obtain ⟨b2, o2, rfl, s0, s1, s2⟩ := rdC_cells HB.out HU.out hy
        have HE2 := Lib.hid ((Rw.fnz_drop hdd).symm.trans HE.out)
        have HC := Lib.hid (fun w => rCompare x y w _ hd1)
        obtain ⟨xu, xn, xs⟩ := x
        obtain ⟨yu, yn, ys⟩ := y
        unfold cv at HC
        simp only at p0 p1 p2 s0 s1 s2 HC
        clear hx hdd hy hd1 HE
        have q0 := fun d os => cell_regrown p0 d os
        have q1 := fun d os => cell_regrown p1 d os
        have q2 := fun d os => cell_regrown p2 d os
        have q3 := fun d os => cell_regrown s0 d os
        have q4 := fun d os => cell_regrown s1 d os
        have q5 := fun d os => cell_regrown s2 d os
        have Q := Lib.hid (fun d os => Calls.regrown_of (HC.out (grow (redrawn wr d) os)))
        clear p0 p1 p2 s0 s1 s2 HC
        go_wp2_with fail
        refine wp_region_quiet_below (by kernel_rfl) (by kernel_rfl) ?_
        iterate 10 (quiet_step (first | with_reducible exact Q.out _ _))
        refine wpQuiet_nil ?_
        intro _ hw'
        obtain ⟨⟨dq, osq⟩, hw''⟩ := hw'
        have HU2 := Lib.hid (up HU.out (show Below wr.heap.size wr _ from hw'' ▸ below_regrown wr dq osq))
        clear hw'' HU Q
        by_cases hz : d1 = 0
        · subst hz
          rw [if_neg (by omega)] at HE2
          go_wp2_with fail
          go_roundw
          case rel => exact ⟨k + 1, by omega, by omega, by go_num, HE2, HU2⟩
          case measure => simp [intOf]; omega
        · rw [if_pos hz] at HE2
          have hz1 : (d1 != 0) = true := by simpa using hz
          obtain rfl : d1 = d := by
            rw [← HD.out]
            unfold Rw.cmps
            rw [← HE2.out, if_pos hz]
          go_wp2_with fail
          go_ret
          exact ⟨rfl, HU2.out⟩
      · have hlt2 : ¬ (k : Int) < b.length := by omega
        have hab : ¬ (a.length : Int) < b.length := by omega
        have hba : (a.length : Int) > b.length := by omega
        have hba' : (b.length : Int) < a.length := by omega
        obtain rfl : (1 : Int) = d := by
          rw [← HD.out]
          unfold Rw.cmps
          rw [← HE.out, Rw.fnz_end (by rw [HL.out]; omega)]
          unfold Rw.c3
          rw [if_neg (by omega), if_neg (by omega), if_pos (by omega)]
        go_wp2_with fail
        go_ret
        exact ⟨rfl, HU.out⟩
    · have hlt1 : ¬ (k : Int) < a.length := by omega
      have hz0 : Rw.fnz (Rw.cmpL a b) = 0 := by rw [← HE.out, Rw.fnz_end (by rw [HL.out]; omega)]
      by_cases hab : a.length < b.length
      · have hab1 : (a.length : Int) < b.length := by omega
        obtain rfl : (-1 : Int) = d := by
          rw [← HD.out]
          unfold Rw.cmps
          rw [hz0]
          unfold Rw.c3
          rw [if_neg (by omega), if_pos (by omega)]
        clear hz0
        go_wp2_with fail
        go_ret
        exact ⟨rfl, HU.out⟩
      · have he : a.length = b.length := by omega
        have hab1 : ¬ (a.length : Int) < b.length := by omega
        have hab2 : ¬ (a.length : Int) > b.length := by omega
        have hab3 : ¬ (b.length : Int) < a.length := by omega
        obtain rfl : (0 : Int) = d := by
          rw [← HD.out]
          unfold Rw.cmps
          rw [hz0]
          unfold Rw.c3
          rw [if_neg (by omega), if_neg (by omega), if_neg (by omega)]
        clear hz0 he
        go_wp2_with fail
        go_ret
        exact ⟨rfl, HU.out⟩
theorem cutC_idem (c : Cl.C) : cutC (cutC c) = cutC c := by
  have hs := cutC_size c
  have h : ∀ s : ByteArray, s.size ≤ 1100 → s.extract 0 (min (s.size : Int) 1100).toNat = s := fun s hs => by
    apply bl_inj
    rw [bl_extract, List.drop_zero, List.take_of_length_le]
    rw [bl_length]; omega
  have h2 := h (cutC c).s hs
  unfold cutC at h2 ⊢
  simp only at h2 ⊢
  rw [h2]
theorem cutR_idem (l : List Cl.C) : cutR (cutR l) = cutR l := by
  have hl := cutR_len l
  unfold cutR at hl ⊢
  rw [List.take_of_length_le hl, List.map_map]
  apply List.map_congr_left
  intro c _
  exact cutC_idem c
set_option maxHeartbeats 8000000 in
theorem refIn (pv : Value) (ps : List Int) (n : Nat) (w : World) (hp : RdI w w.heap.size pv ps) (hl : ps.length ≤ 1000000) (b : Bool) (hb : Rw.okP ps n = b) :
    Calls Tryz.prog 36 #[pv, .int .i64 (n : Nat)] w fun e w' => e = .returned (.bool b) ∧ Below w.heap.size w w' := by
  have HP := Lib.hid hp
  have HB := Lib.hid hb
  obtain ⟨a, c, rfl, _⟩ := Gn.Rd.form hp
  clear hp hb
  go_enter Tryz.func36, Tryz.ntmps36
  go_wp2_with fail
  go_loopw [5] (fun i wr => ∃ k : Nat, k ≤ ps.length ∧ i = .int .i64 (k : Nat) ∧ Hid (∀ (j : Nat) p, j < k → ps[j]? = some p → 0 ≤ p ∧ p < (n : Int)) ∧ Hid (Below w.heap.size w wr)) (fun i _ => ps.length - (intOf i).toNat)
  case atStart => exact ⟨0, by omega, by rfl, Lib.hid (fun j p hj => by omega), Lib.hid (Below.refl _ _)⟩
  case round =>
    obtain ⟨k, hk, rfl, HE, HU⟩ := hrel
    by_cases hlt : k < ps.length
    · have hlt1 : (k : Int) < ps.length := by omega
      obtain ⟨p, hp⟩ : ∃ x, ps[k]? = some x := ⟨_, List.getElem?_eq_getElem hlt⟩
      obtain ⟨b1, o1, rfl, p0⟩ := rdI_cell HP.out HU.out hp
      by_cases h1 : p < 0
      · obtain rfl : false = b := (Rw.okP_no hp (by omega)).symm.trans HB.out
        clear hp
        go_wp2_with fail
        go_ret
        exact ⟨rfl, HU.out⟩
      · by_cases h2 : p < n
        · have h3 : ¬ p ≥ (n : Int) := by omega
          have HE2 : Hid (∀ (j : Nat) p, j < k + 1 → ps[j]? = some p → 0 ≤ p ∧ p < (n : Int)) := Lib.hid (fun j q hj hq => by
            rcases Nat.lt_succ_iff_lt_or_eq.1 hj with h | rfl
            · exact HE.out j q h hq
            · rw [hp] at hq; injection hq with hq; omega)
          clear hp
          go_wp2_with fail
          go_roundw
          case rel => exact ⟨k + 1, by omega, by go_num, HE2, HU⟩
          case measure => simp [intOf]; omega
        · have h3 : p ≥ (n : Int) := by omega
          obtain rfl : false = b := (Rw.okP_no hp (by omega)).symm.trans HB.out
          clear hp
          go_wp2_with fail
          go_ret
          exact ⟨rfl, HU.out⟩
    · have hlt1 : ¬ (k : Int) < ps.length := by omega
      obtain rfl : true = b := by
        rw [← HB.out]
        unfold Rw.okP
        symm
        rw [List.all_eq_true]
        intro p hp
        obtain ⟨j, hj, e⟩ := List.mem_iff_getElem.1 hp
        have := HE.out j p (by omega) (by rw [List.getElem?_eq_getElem hj, e])
        simpa using this
      go_wp2_with fail
      go_ret
      exact ⟨rfl, HU.out⟩
theorem pick_snoc {r : List Cl.C} {ps : List Int} {k : Nat} {p : Int} (h : ps[k]? = some p) : Rw.pick r (ps.take k) ++ [Rw.cAt r p] = Rw.pick r (ps.take (k + 1)) := by
  unfold Rw.pick
  rw [List.take_add_one, h, List.map_append]; rfl
set_option maxHeartbeats 8000000 in
theorem refPick (rv pv : Value) (r : List Cl.C) (ps : List Int) (w : World) (hr : RdC w w.heap.size rv r) (hp : RdI w w.heap.size pv ps) (hl : ps.length ≤ 100000) (e0 : Nat) (l : List Cl.C) (ha : Rw.pickR r ps = (e0, l)) :
    Calls Tryz.prog 17 #[rv, pv] w fun e w' => ∃ u, e = .returned (.tuple #[u, .int .i64 (e0 : Nat)]) ∧ RdC w' w'.heap.size u l ∧ Below w.heap.size w w' := by
  have HR := Lib.hid hr
  have HP := Lib.hid hp
  obtain ⟨ra, rc, rfl, _⟩ := Gn.Rd.form hr
  clear hr hp
  by_cases hok : Rw.okP ps r.length = true
  · obtain ⟨rfl, rfl⟩ : 0 = e0 ∧ Rw.pick r ps = l := by
      unfold Rw.pickR at ha
      rw [if_neg (by rw [hok]; simp)] at ha
      injection ha with h1 h2
      exact ⟨h1, h2⟩
    have HI := Lib.hid (refIn pv ps r.length w HP.out (by omega) true hok)
    have HO := Lib.hid hok
    clear hok ha
    go_enter Tryz.func17, Tryz.ntmps17
    go_wp2_with fail
    ((with_reducible refine (HI.out).mono ?_); rintro e w1 ⟨rfl, b1⟩)
    have HR1 := Lib.hid (HR.out.later b1)
    have HP1 := Lib.hid (HP.out.later b1)
    have HU1 := Lib.hid b1
    clear b1 HI HR HP
    obtain ⟨pa, pc, rfl, _⟩ := Gn.Rd.form HP1.out
    go_wp2_with fail
    go_loopw [6, 7] (fun o i wr => ∃ k : Nat, k ≤ ps.length ∧ i = .int .i64 (k : Nat) ∧ Hid (OwnC wr w1.heap.size o (Rw.pick r (ps.take k))) ∧ Hid (Below w1.heap.size w1 wr)) (fun _ i _ => ps.length - (intOf i).toNat)
    case atStart => exact ⟨0, by omega, by rfl, Lib.hid (Gn.Own.nil _ _), Lib.hid (Below.refl _ _)⟩
    case round =>
      obtain ⟨k, hk, rfl, HB, HU⟩ := hrel
      by_cases hlt : k < ps.length
      · have hlt1 : (k : Int) < ps.length := by omega
        obtain ⟨p, hp⟩ : ∃ x, ps[k]? = some x := ⟨_, List.getElem?_eq_getElem hlt⟩
        have hpr := Rw.okP_at HO.out hp
        have HX := Lib.hid (pick_snoc (r := r) hp)
        obtain ⟨n, rfl⟩ : ∃ n : Nat, p = n := ⟨p.toNat, by omega⟩
        have hx := Rw.cAt_some hpr
        rw [Int.toNat_natCast] at hx
        obtain ⟨b1, o1, rfl, p0⟩ := rdI_cell HP1.out HU.out hp
        obtain ⟨b2, o2, rfl, s0, s1, s2⟩ := rdC_cells HR1.out HU.out hx
        have hn1 : (n : Int) < r.length := hpr.2
        have HLN : Hid ((Rw.pick r (ps.take k)).length + ([Rw.cAt r (n : Nat)] : List Cl.C).length ≤ 100000000) := Lib.hid (by unfold Rw.pick; rw [List.length_map, List.length_take]; simp; omega)
        clear hp hx hpr
        generalize Rw.cAt r (n : Nat) = x at *
        obtain ⟨xu, xn, xs⟩ := x
        simp only at s0 s1 s2
        have HB1 := Lib.hid (box_new wr (.cells #[.bool xu, .int .i64 xn, .string xs] 34))
        have HO2 := Lib.hid (Gn.Own.later HB.out HB1.out)
        have HR2 := Lib.hid (rd_one 34 clL wr ⟨xu, xn, xs⟩ #[.bool xu, .int .i64 xn, .string xs] rfl)
        have HU2 := Lib.hid (up HU.out HB1.out)
        have HSZ := Lib.hid HU2.out.size
        clear HU HB
        go_wp2_with (at_builtin
                     refine Gn.wpList_app clL clY rfl (.tmp 19) (.tmp 27) rfl w1.heap.size u6 (Rw.pick r (ps.take k)) (by kernel_rfl) HO2.out (.slice (some ⟨wr.heap.size, 0, none⟩) 1 1) [⟨xu, xn, xs⟩] (by kernel_rfl) HR2.out HLN.out HSZ.out ?_
                     intro v1 w2 ho1 hg1 hl1 hn1
                     have HO3 := Lib.hid ho1
                     have HU3 := Lib.hid (HU2.out.trans (Gn.below_of_own HO2.out hg1 HSZ.out))
                     clear ho1 hg1 hl1 hn1)
        go_roundw
        case rel => exact ⟨k + 1, by omega, by go_num, Lib.hid (by rw [← HX.out]; exact HO3.out), HU3⟩
        case measure => simp [intOf]; omega
      · have hlt1 : ¬ (k : Int) < ps.length := by omega
        obtain rfl : k = ps.length := by omega
        rw [List.take_length] at HB
        go_wp2_with fail
        go_ret2
        exact ⟨_, rfl, RdC.of HB.out, up HU1.out HU.out⟩
  · have hok1 : Rw.okP ps r.length = false := by cases h : Rw.okP ps r.length with | false => rfl | true => exact absurd h hok
    obtain ⟨rfl, rfl⟩ : 6 = e0 ∧ [] = l := by
      unfold Rw.pickR at ha
      rw [if_pos hok1] at ha
      injection ha with h1 h2
      exact ⟨h1, h2⟩
    have HI := Lib.hid (refIn pv ps r.length w HP.out (by omega) false hok1)
    clear hok hok1 ha HR HP
    go_enter Tryz.func17, Tryz.ntmps17
    go_wp2_with fail
    ((with_reducible refine (HI.out).mono ?_); rintro e w1 ⟨rfl, b1⟩)
    go_wp2_with fail
    go_ret2
    exact ⟨_, rfl, Gn.Rd.nil _ _, b1⟩
end Go.Proofs.YtfplogjdcndohaaGreatDoor

/- The reference's Key and Unkey. -/
namespace Go.Proofs.YtfplogjdcndohaaGreatDoor
open Go.RowKit Go.Sort
set_option linter.unusedVariables false
set_option maxRecDepth 100000

theorem key_snoc {ts : List Rw.Ty} {r : List Cl.C} {ps : List Int} {k : Nat} {p : Int} (h : ps[k]? = some p) : Rw.key ts (ps.take k) r ++ Rw.kAt ts r p = Rw.key ts (ps.take (k + 1)) r := by
  unfold Rw.key
  rw [List.take_add_one, h, List.flatMap_append]
  simp
theorem key_take_le (ts : List Rw.Ty) (r : List Cl.C) (ps : List Int) (k : Nat) : (Rw.key ts (ps.take k) r).length ≤ (Rw.key ts ps r).length := by
  have h : Rw.key ts ps r = Rw.key ts (ps.take k) r ++ Rw.key ts (ps.drop k) r := by
    unfold Rw.key
    rw [← List.flatMap_append, List.take_append_drop]
  rw [h, List.length_append]; omega
theorem type_at {ks : List Co} {i : Nat} {t : Co} (ht : ks[i]? = some t) : Rw.tAt (tys ks) (i : Nat) = (t.u, t.k) := by
  have hi : i < ks.length := (List.getElem?_eq_some_iff.1 ht).1
  have h1 := Rw.tAt_some (r := tys ks) (p := (i : Nat)) (by rw [tys_len]; omega)
  rw [Int.toNat_natCast, tys_at ht] at h1
  injection h1 with h1; exact h1.symm
set_option maxHeartbeats 8000000 in
theorem rowKeyR (kv pv rv : Value) (ks : List Co) (ps : List Int) (r : List Cl.C) (w : World) (hk : RdK w w.heap.size kv ks) (hp : RdI w w.heap.size pv ps) (hr : RdC w w.heap.size rv r) (hl : ps.length ≤ 100000) (hrl : r.length ≤ 1000000) (hi : ∀ c ∈ r, Cl.I64 c.n) (hm : ∀ c ∈ r, c.s.size ≤ 1000000)
    (hkl : (Rw.key (tys ks) ps r).length ≤ 1000000) (a : Int × List Nat) (ha : Rw.keyR (tys ks) ps r = a) (x : ByteArray) (hx : str a.2 = x) :
    Calls Tryz.prog 26 #[kv, pv, rv] w fun e w' => e = .returned (.tuple #[.string x, .int .i64 a.1]) ∧ Below w.heap.size w w' := by
  have HK := Lib.hid hk
  have HR := Lib.hid hr
  have HP := Lib.hid hp
  have HI := Lib.hid hi
  have HM := Lib.hid hm
  have HL := Lib.hid hkl
  have HXX := Lib.hid hx
  have HA := Lib.hid ha
  obtain ⟨d, hd⟩ : ∃ d, Rw.chkR (tys ks) r = d := ⟨_, rfl⟩
  have HC := Lib.hid (rowCheckR _ _ ks r w HK.out HR.out hrl HM.out d hd)
  have HDD := Lib.hid hd
  obtain ⟨ka, kc, rfl, _⟩ := Gn.Rd.form hk
  obtain ⟨ra, rc, rfl, _⟩ := Gn.Rd.form hr
  clear hk hr hp hi hm hkl hx ha hd
  go_enter Tryz.func26, Tryz.ntmps26
  go_wp2_with fail
  ((with_reducible refine (HC.out).mono ?_); rintro e w1 ⟨rfl, b1⟩)
  have HK1 := Lib.hid (HK.out.later b1)
  have HR1 := Lib.hid (HR.out.later b1)
  have HP1 := Lib.hid (HP.out.later b1)
  have HB1 := Lib.hid b1
  clear b1 HC HK HR HP
  by_cases hc : d = 0
  · subst hc
    by_cases hok : Rw.okP ps r.length = true
    · obtain rfl : a = (0, Rw.key (tys ks) ps r) := by rw [← HA.out]; unfold Rw.keyR; rw [if_neg (by rw [HDD.out]; simp), if_neg (by rw [hok]; simp)]
      have HIN := Lib.hid (refIn pv ps r.length w1 HP1.out (by omega) true hok)
      obtain ⟨hrk, hall⟩ := Rw.chkR_ok HDD.out
      rw [tys_len] at hrk
      have HALL := Lib.hid hall
      have HOK := Lib.hid hok
      have HRK := Lib.hid hrk
      clear hall hok hrk
      go_wp2_with fail
      ((with_reducible refine (HIN.out).mono ?_); rintro e w2 ⟨rfl, b2⟩)
      have HK2 := Lib.hid (HK1.out.later b2)
      have HR2 := Lib.hid (HR1.out.later b2)
      have HP2 := Lib.hid (HP1.out.later b2)
      have HB2 := Lib.hid (up HB1.out b2)
      clear b2 HIN HK1 HR1 HP1 HB1
      obtain ⟨pa, pc, rfl, _⟩ := Gn.Rd.form HP2.out
      go_wp2_with fail
      go_loopw [9, 10] (fun o i wr => ∃ k : Nat, k ≤ ps.length ∧ i = .int .i64 (k : Nat) ∧ o = .string (str (Rw.key (tys ks) (ps.take k) r)) ∧ Hid (Below w2.heap.size w2 wr)) (fun _ i _ => ps.length - (intOf i).toNat)
      case atStart => exact ⟨0, by omega, by rfl, by rfl, Lib.hid (Below.refl _ _)⟩
      case round =>
        obtain ⟨k, hk, rfl, rfl, HU⟩ := hrel
        by_cases hlt : k < ps.length
        · have hlt1 : (k : Int) < ps.length := by omega
          obtain ⟨p, hp⟩ : ∃ x, ps[k]? = some x := ⟨_, List.getElem?_eq_getElem hlt⟩
          have hpr := Rw.okP_at HOK.out hp
          obtain ⟨g1, g2⟩ := HALL.out p hpr
          have HS := Lib.hid (key_snoc (ts := tys ks) (r := r) hp)
          have l1 := key_take_le (tys ks) r ps k
          have l2 := key_take_le (tys ks) r ps (k + 1)
          rw [← HS.out, List.length_append] at l2
          have hll := HL.out
          obtain ⟨n, rfl⟩ : ∃ n : Nat, p = n := ⟨p.toNat, by omega⟩
          have hx := Rw.cAt_some hpr
          rw [Int.toNat_natCast] at hx
          obtain ⟨t, ht⟩ : ∃ t, ks[n]? = some t := ⟨_, List.getElem?_eq_getElem (by have := HRK.out; omega)⟩
          have htt := type_at ht
          obtain ⟨b1, o1, rfl, p0⟩ := rdI_cell HP2.out HU.out hp
          obtain ⟨b2, o2, rfl, s0, s1, s2⟩ := rdC_cells HR2.out HU.out hx
          obtain ⟨b3, o3, rfl, z0, z1⟩ := rdK_type HK2.out HU.out ht
          have hn1 : (n : Int) < r.length := hpr.2
          have hn2 : (n : Int) < ks.length := by have := HRK.out; omega
          have hmem := List.mem_of_getElem? hx
          have hK2 : str (Rw.kAt (tys ks) r (n : Nat)) = str (Cl.bts t.u t.k (Rw.cAt r (n : Nat))) := by unfold Rw.kAt; rw [htt]
          have KK := Lib.hid (fun w => rBits t.u t.k (Rw.cAt r (n : Nat)) w (HI.out _ hmem) (HM.out _ hmem) 0 (by rw [htt] at g1 g2; simp only at g1 g2; simp [Cl.chk, g1, g2]) (str (Rw.kAt (tys ks) r (n : Nat))) (by rw [if_pos rfl, hK2]))
          have q4 : (str (Rw.key (tys ks) (ps.take k) r)).size + (str (Rw.kAt (tys ks) r (n : Nat))).size ≤ 9223372036854775807 := by rw [str_size, str_size]; omega
          have HSS := Lib.hid (show str (Rw.key (tys ks) (ps.take k) r) ++ str (Rw.kAt (tys ks) r (n : Nat)) = str (Rw.key (tys ks) (ps.take (k + 1)) r) by rw [← str_append, HS.out])
          clear hp hpr hx ht htt hmem l1 l2 hll g1 g2 HS hK2
          generalize Rw.cAt r (n : Nat) = c at *
          generalize str (Rw.kAt (tys ks) r (n : Nat)) = y at *
          generalize str (Rw.key (tys ks) (ps.take k) r) = z at *
          obtain ⟨cu, cn, cs⟩ := c
          unfold cv tv at KK
          simp only at KK s0 s1 s2
          have q0 := fun d os => cell_regrown p0 d os
          have q1 := fun d os => cell_regrown s0 d os
          have q2 := fun d os => cell_regrown s1 d os
          have q3 := fun d os => cell_regrown s2 d os
          have q5 := fun d os => cell_regrown z0 d os
          have q6 := fun d os => cell_regrown z1 d os
          have Q := Lib.hid (fun d os => Calls.regrown_of (KK.out (grow (redrawn wr d) os)))
          have hadd := fun w => run_string_add_sum (w := w) (P := Tryz.prog) z y q4
          clear p0 s0 s1 s2 z0 z1 KK q4
          go_wp2_with fail
          refine wp_region_quiet_below (by kernel_rfl) (by kernel_rfl) ?_
          iterate 21 (quiet_step (first | with_reducible exact Q.out _ _))
          refine wpQuiet_nil ?_
          intro _ hw'
          obtain ⟨⟨dq, osq⟩, hw''⟩ := hw'
          have HU2 := Lib.hid (up HU.out (show Below wr.heap.size wr _ from hw'' ▸ below_regrown wr dq osq))
          clear hw'' HU Q q0 q1 q2 q3 q5 q6
          go_wp2_with fail
          go_roundw
          case rel => exact ⟨k + 1, by omega, by go_num, by rw [← HSS.out], HU2⟩
          case measure => simp [intOf]; omega
        · have hlt1 : ¬ (k : Int) < ps.length := by omega
          obtain rfl : k = ps.length := by omega
          obtain rfl : str (Rw.key (tys ks) (ps.take ps.length) r) = x := by rw [List.take_length]; exact HXX.out
          go_wp2_with fail
          go_ret2
          exact ⟨rfl, up HB2.out HU.out⟩
    · have hok1 : Rw.okP ps r.length = false := by cases h : Rw.okP ps r.length with | false => rfl | true => exact absurd h hok
      obtain rfl : a = (6, []) := by rw [← HA.out]; unfold Rw.keyR; rw [if_neg (by rw [HDD.out]; simp), if_pos hok1]
      obtain rfl : x = ⟨#[]⟩ := HXX.out.symm
      have HIN := Lib.hid (refIn pv ps r.length w1 HP1.out (by omega) false hok1)
      clear hok hok1
      go_wp2_with fail
      ((with_reducible refine (HIN.out).mono ?_); rintro e w2 ⟨rfl, b2⟩)
      have HB2 := Lib.hid (up HB1.out b2)
      clear b2
      go_wp2_with fail
      go_ret2
      exact ⟨rfl, HB2.out⟩
  · obtain rfl : a = (d, []) := by rw [← HA.out]; unfold Rw.keyR; rw [HDD.out, if_pos hc]
    obtain rfl : x = ⟨#[]⟩ := HXX.out.symm
    have hne : (d != 0) = true := by simpa using hc
    clear hc HA HDD
    go_wp2_with fail
    go_ret2
    exact ⟨rfl, HB1.out⟩
theorem outs_snoc {α : Type} (out : Nat → α) (k : Nat) : (List.range k).map out ++ [out k] = (List.range (k + 1)).map out := by rw [List.range_succ, List.map_append]; rfl
set_option maxHeartbeats 8000000 in
theorem rowUnkeyR (kv pv : Value) (s : ByteArray) (ks : List Co) (ps : List Int) (w : World) (hk : RdK w w.heap.size kv ks) (hp : RdI w w.heap.size pv ps) (hl : ps.length ≤ 100000) (hm : s.size ≤ 100000) (e0 : Nat) (l : List Cl.C) (ha : Rw.unkR (tys ks) ps (bl s) = (e0, l)) :
    Calls Tryz.prog 28 #[kv, pv, .string s] w fun e w' => ∃ u, e = .returned (.tuple #[u, .int .i64 (e0 : Nat)]) ∧ RdC w' w'.heap.size u l ∧ Below w.heap.size w w' := by
  have HK := Lib.hid hk
  have HP := Lib.hid hp
  have HA := Lib.hid ha
  obtain ⟨ka, kc, rfl, _⟩ := Gn.Rd.form hk
  have htl := tys_len ks
  clear hk hp ha
  by_cases hok : Rw.okP ps ks.length = true
  · have hA2 : Rw.unkR (tys ks) ps (bl s) = (let q := Rw.unk (tys ks) ps (bl s); if q.1 ≠ 0 then (q.1, []) else if q.2.2 ≠ [] then (30, []) else (0, q.2.1)) := by
      unfold Rw.unkR; rw [htl, if_neg (by rw [hok]; simp)]
    obtain ⟨m, rest, out, sz, en, h1, h2, h3, h4, h5⟩ := Rw.unk_steps (tys ks) ps (bl s)
    have HIN := Lib.hid (refIn pv ps ks.length w HP.out (by omega) true hok)
    have HOK := Lib.hid hok
    have HA2 := Lib.hid (hA2.symm.trans HA.out)
    have H3 := Lib.hid h3
    have H4 := Lib.hid h4
    have H5 := Lib.hid h5
    have H2 := Lib.hid h2
    clear hok hA2 h3 h4 h5 h2 htl HA
    go_enter Tryz.func28, Tryz.ntmps28
    go_wp2_with fail
    ((with_reducible refine (HIN.out).mono ?_); rintro e w1 ⟨rfl, b1⟩)
    have HK1 := Lib.hid (HK.out.later b1)
    have HP1 := Lib.hid (HP.out.later b1)
    have HB1 := Lib.hid b1
    clear b1 HIN HK HP
    obtain ⟨pa, pc, rfl, _⟩ := Gn.Rd.form HP1.out
    go_wp2_with fail
    go_loopw [2, 8, 9] (fun sv o i wr => ∃ (k : Nat) (x : ByteArray), k ≤ m ∧ sv = .string x ∧ i = .int .i64 (k : Nat) ∧ x.size ≤ 100000 ∧ Hid (bl x = rest k) ∧ Hid (OwnC wr w1.heap.size o ((List.range k).map out)) ∧ Hid (Below w1.heap.size w1 wr)) (fun _ _ i _ => ps.length - (intOf i).toNat)
    case atStart => exact ⟨0, s, by omega, by rfl, by rfl, hm, Lib.hid H2.out.symm, Lib.hid (Gn.Own.nil _ _), Lib.hid (Below.refl _ _)⟩
    case round =>
      obtain ⟨k, x, hk, rfl, rfl, hxm, HX, HO, HU⟩ := hrel
      by_cases hlt : k < ps.length
      · have hlt1 : (k : Int) < ps.length := by omega
        obtain ⟨p, hp⟩ : ∃ x, ps[k]? = some x := ⟨_, List.getElem?_eq_getElem hlt⟩
        have hpr := Rw.okP_at HOK.out hp
        obtain ⟨n, rfl⟩ : ∃ n : Nat, p = n := ⟨p.toNat, by omega⟩
        obtain ⟨t, ht⟩ : ∃ t, ks[n]? = some t := ⟨_, List.getElem?_eq_getElem (by omega)⟩
        have htt := type_at ht
        obtain ⟨b1, o1, rfl, p0⟩ := rdI_cell HP1.out HU.out hp
        obtain ⟨b3, o3, rfl, z0, z1⟩ := rdK_type HK1.out HU.out ht
        have hn2 : (n : Int) < ks.length := hpr.2
        obtain ⟨c, sn, ee, hu⟩ : ∃ c n e, Cl.unb t.u t.k (bl x) = (c, n, e) := ⟨_, _, _, rfl⟩
        have HC := Lib.hid (rUnbits t.u t.k x wr hxm (c, sn, ee) hu)
        unfold UbPost tv cv at HC
        simp only at HC
        by_cases hkm : k < m
        · obtain ⟨g1, g2⟩ := H3.out k _ hkm hp
          rw [htt] at g1
          simp only at g1
          rw [HX.out] at hu
          rw [g1] at hu
          obtain ⟨rfl, rfl, rfl⟩ : out k = c ∧ sz k = sn ∧ 0 = ee := by injection hu with a b; injection b with b d; exact ⟨a, b, d⟩
          have g3 := (Cl.unb_good _ _ (bl x) (bl_byte x) (out k) (sz k) (by rw [HX.out]; exact g1)).2.2.2.1
          rw [bl_length] at g3
          obtain ⟨z, hz⟩ : ∃ z, x.extract (sz k) x.size = z := ⟨_, rfl⟩
          have hzl : bl z = (bl x).drop (sz k) := by
            rw [← hz, bl_extract, List.take_of_length_le]
            rw [List.length_drop, bl_length]; exact Nat.le_refl _
          have hzs : z.size ≤ 100000 := by rw [← hz]; simp; omega
          have hsl : ∀ w, (Instr.slice 9 (.string x) (some (.int .i64 (sz k : Nat))) none none).run Tryz.prog w = .ok (.string z) w := fun w => by
            rw [run_slice_string_from_if w 9 x .i64 (sz k : Nat) Tryz.underlying9, if_pos (by omega)]
            simp only [Int.toNat_natCast, hz]
          have HZ := Lib.hid (show bl z = rest (k + 1) by rw [hzl, HX.out, g2])
          have HSN := Lib.hid (outs_snoc out k)
          have HLN0 := Lib.hid (show ((List.range k).map out).length + 1 ≤ 100000000 by rw [List.length_map, List.length_range]; omega)
          clear hu g1 g2 hp ht htt hpr HX hz hzl g3
          generalize out k = c at *
          obtain ⟨cu, cn, cs⟩ := c
          simp only at HC
          go_wp2_with fail
          ((with_reducible refine (HC.out).mono ?_); rintro e wa ⟨rfl, ba⟩)
          have HU1 := Lib.hid (up HU.out ba)
          have HO1 := Lib.hid (Gn.Own.later HO.out ba)
          clear ba HC HU HO p0 z0 z1
          have HB2 := Lib.hid ((box_new wa (.cells #[.bool cu, .int .i64 cn, .string cs] 34)).alloc (by simp) (.cells #[.bool cu, .int .i64 cn, .string cs] 34))
          have HO2 := Lib.hid (Gn.Own.later HO1.out HB2.out)
          have HR2 := Lib.hid (rd_one 34 clL (wa.alloc (.cells #[.bool cu, .int .i64 cn, .string cs] 34)) ⟨cu, cn, cs⟩ #[.bool cu, .int .i64 cn, .string cs] rfl)
          rw [show (wa.alloc (.cells #[.bool cu, .int .i64 cn, .string cs] 34)).heap.size = wa.heap.size + 1 by simp] at HR2
          have HU2 := Lib.hid (up HU1.out HB2.out)
          have HSZ := Lib.hid HU2.out.size
          clear HU1 HO1
          go_wp2_with (at_builtin
                       refine Gn.wpList_app clL clY rfl (.tmp 41) (.tmp 43) rfl w1.heap.size u8 ((List.range k).map out) (by kernel_rfl) HO2.out (.slice (some ⟨wa.heap.size + 1, 0, none⟩) 1 1) [⟨cu, cn, cs⟩] (by kernel_rfl) HR2.out HLN0.out HSZ.out ?_
                       intro v1 w2 ho1 hg1 hl1 hn1
                       have HO3 := Lib.hid ho1
                       have HU3 := Lib.hid (HU2.out.trans (Gn.below_of_own HO2.out hg1 HSZ.out))
                       clear ho1 hg1 hl1 hn1)
          go_roundw
          case rel => exact ⟨k + 1, z, by omega, rfl, by go_num, hzs, HZ, Lib.hid (by rw [← HSN.out]; exact HO3.out), HU3⟩
          case measure => simp [intOf]; omega
        · obtain rfl : k = m := by omega
          obtain ⟨g1, g2, g3⟩ := H4.out _ hlt hp
          rw [htt] at g2
          simp only at g2
          rw [← HX.out, hu] at g2
          simp only at g2
          subst g2
          have hA3 := HA2.out
          rw [g3] at hA3
          simp only at hA3
          rw [if_pos g1] at hA3
          obtain ⟨rfl, rfl⟩ : ee = e0 ∧ [] = l := by injection hA3 with a b; exact ⟨a, b⟩
          have hne : ((ee : Int) != 0) = true := by simpa using g1
          clear hu g1 g3 hp ht htt hpr HX hA3
          obtain ⟨cu, cn, cs⟩ := c
          simp only at HC
          go_wp2_with fail
          ((with_reducible refine (HC.out).mono ?_); rintro e wa ⟨rfl, ba⟩)
          have HU1 := Lib.hid (up (up HB1.out HU.out) (up ba (box_new wa (.cells #[.bool cu, .int .i64 cn, .string cs] 34))))
          clear ba HC HU HO p0 z0 z1
          go_wp2_with fail
          go_ret2
          exact ⟨_, rfl, Gn.Rd.nil _ _, HU1.out⟩
      · have hlt1 : ¬ (k : Int) < ps.length := by omega
        have hkm : k = m := by omega
        have hml : m = ps.length := by omega
        have h6 := H5.out hml
        have hA3 := HA2.out
        rw [h6] at hA3
        simp only at hA3
        rw [hkm] at HX HO
        rw [← HX.out] at hA3
        clear H3 H4 H5 HA2 hkm hml h6
        by_cases hx0 : x = ⟨#[]⟩
        · subst hx0
          obtain ⟨rfl, rfl⟩ : 0 = e0 ∧ (List.range m).map out = l := by
            have e : bl (⟨#[]⟩ : ByteArray) = [] := rfl
            rw [e] at hA3
            simp at hA3
            exact ⟨hA3.1, hA3.2⟩
          clear hA3
          go_wp2_with fail
          go_ret2
          exact ⟨_, rfl, RdC.of HO.out, up HB1.out HU.out⟩
        · have hxn : bl x ≠ [] := fun e => hx0 (bl_inj (e.trans rfl))
          have hxe : x.toList.isEmpty = false := by rw [bl_empty]; exact decide_eq_false hxn
          obtain ⟨rfl, rfl⟩ : 30 = e0 ∧ [] = l := by
            simp [hxn] at hA3
            exact ⟨hA3.1, hA3.2.symm⟩
          clear hA3 hxn
          go_wp2_with fail
          go_ret2
          exact ⟨_, rfl, Gn.Rd.nil _ _, up HB1.out HU.out⟩
  · have hok1 : Rw.okP ps ks.length = false := by cases h : Rw.okP ps ks.length with | false => rfl | true => exact absurd h hok
    obtain ⟨rfl, rfl⟩ : 6 = e0 ∧ [] = l := by
      have := HA.out
      unfold Rw.unkR at this
      rw [htl, if_pos hok1] at this
      injection this with a b
      exact ⟨a, b⟩
    have HIN := Lib.hid (refIn pv ps ks.length w HP.out (by omega) false hok1)
    clear hok hok1 HA HK HP
    go_enter Tryz.func28, Tryz.ntmps28
    go_wp2_with fail
    ((with_reducible refine (HIN.out).mono ?_); rintro e w1 ⟨rfl, b1⟩)
    have HB1 := Lib.hid b1
    clear b1
    go_wp2_with fail
    go_ret2
    exact ⟨_, rfl, Gn.Rd.nil _ _, HB1.out⟩
end Go.Proofs.YtfplogjdcndohaaGreatDoor

/- RowCompares' and RowChecks' walks: the program's answers are the reference's. -/
namespace Go.Proofs.YtfplogjdcndohaaGreatDoor
open Go.RowKit Go.Sort
set_option linter.unusedVariables false
set_option maxRecDepth 100000

theorem cutR_sz {l : List Cl.C} : ∀ c ∈ cutR l, c.s.size ≤ maxLen := by
  intro c hc
  unfold cutR at hc
  obtain ⟨d, hd, rfl⟩ := List.mem_map.1 hc
  have := cutC_size d
  unfold maxLen; omega
set_option maxHeartbeats 8000000 in
theorem rowCompares (av bv : Value) (A0 B0 : List Cl.C) (w : World) (ha : RowIn w av A0) (hb : RowIn w bv B0) (T : TA w) :
    Calls Tryz.prog 4 #[av, bv] w fun e w' => e = .returned (.bool true) ∧ Below w.heap.size w w' := by
  have HA := Lib.hid ha
  have HB := Lib.hid hb
  have HT := Lib.hid (fun w1 (hb : Below w.heap.size w w1) => T.later hb)
  clear ha hb T
  go_enter Tryz.func4, Tryz.ntmps4
  go_wp2_with fail
  ((with_reducible refine (lCutR av A0 w HA.out.rd HA.out.sz).mono ?_); rintro e w1 ⟨v1, rfl, ho, b1⟩)
  have HA1 := Lib.hid (RdC.of ho)
  have HU1 := Lib.hid b1
  clear ho b1
  go_wp2_with fail
  ((with_reducible refine (lCutR bv B0 w1 (HB.out.rd.later HU1.out) HB.out.sz).mono ?_); rintro e w2 ⟨v2, rfl, ho, b2⟩)
  have HA2 := Lib.hid (HA1.out.later b2)
  have HB2 := Lib.hid (RdC.of ho)
  have HU2 := Lib.hid (up HU1.out b2)
  have la := cutR_len A0
  have HID := Lib.hid (cutR_idem A0)
  have HSZ := Lib.hid (cutR_sz (l := A0))
  clear ho b2 HA1 HU1 HA HB
  generalize cutR A0 = a at *
  generalize cutR B0 = b at *
  obtain ⟨n, hn⟩ : ∃ n, Rw.cmps a b = n := ⟨_, rfl⟩
  have HN := Lib.hid hn
  clear hn
  go_wp2_with fail
  ((with_reducible refine (rowCompare _ _ a b w2 HA2.out HB2.out (by omega) n HN.out).mono ?_); rintro e w3 ⟨rfl, b3⟩)
  have HA3 := Lib.hid (HA2.out.later b3)
  have HB3 := Lib.hid (HB2.out.later b3)
  have HU3 := Lib.hid (up HU2.out b3)
  clear b3 HA2 HB2 HU2
  go_wp2_with fail
  ((with_reducible refine (rowCompareR _ _ a b w3 HA3.out HB3.out (by omega) n HN.out).mono ?_); rintro e w4 ⟨rfl, b4⟩)
  have HA4 := Lib.hid (HA3.out.later b4)
  have HB4 := Lib.hid (HB3.out.later b4)
  have HU4 := Lib.hid (up HU3.out b4)
  clear b4 HA3 HB3 HU3
  obtain ⟨q, hq⟩ : ∃ q : Bool, (q = true ↔ a = b) := by
    by_cases h : a = b
    · exact ⟨true, by simp [h]⟩
    · exact ⟨false, by simp [h]⟩
  have HQ := Lib.hid hq
  clear hq
  have hnn : (n == n) = true := by simp
  have hqq : (q == q) = true := by simp
  go_wp2_with fail
  ((with_reducible refine (rowSame _ _ a b w4 HA4.out HB4.out (by omega) q HQ.out).mono ?_); rintro e w5 ⟨rfl, b5⟩)
  have HA5 := Lib.hid (HA4.out.later b5)
  have HB5 := Lib.hid (HB4.out.later b5)
  have HU5 := Lib.hid (up HU4.out b5)
  clear b5 HA4 HB4 HU4
  go_wp2_with fail
  ((with_reducible refine (eqRow _ _ a b w5 HA5.out HB5.out (by omega) q HQ.out).mono ?_); rintro e w6 ⟨rfl, b6⟩)
  have HA6 := Lib.hid (HA5.out.later b6)
  have HU6 := Lib.hid (up HU5.out b6)
  clear b6 HA5 HB5 HU5
  go_wp2_with fail
  ((with_reducible refine (lCutR v1 a w6 HA6.out HSZ.out).mono ?_); rintro e w7 ⟨v7, rfl, ho, b7⟩)
  rw [HID.out] at ho
  have HA7 := Lib.hid (HA6.out.later b7)
  have HC7 := Lib.hid (RdC.of ho)
  have HU7 := Lib.hid (up HU6.out b7)
  clear b7 ho HA6 HU6
  go_wp2_with fail
  ((with_reducible refine (rowSame _ _ a a w7 HA7.out HC7.out (by omega) true (by simp)).mono ?_); rintro e w8 ⟨rfl, b8⟩)
  have HU8 := Lib.hid (up HU7.out b8)
  clear b8
  go_wp2_with fail
  ((with_reducible refine (works _ (HT.out _ HU8.out)).mono ?_); rintro e wz ⟨rfl, bz⟩)
  have HZ := Lib.hid (up HU8.out bz)
  clear bz
  go_wp2_with fail
  go_ret
  exact ⟨rfl, HZ.out⟩
theorem OwnC.later {w w' : World} {base : Nat} {v : Value} {l : List Cl.C} (h : OwnC w base v l) (hb : Below w.heap.size w w') : OwnC w' base v l := Gn.Own.later h hb
/-- A cell in an owned row is made another one. -/
theorem setC {w : World} {base g n c k : Nat} {l : List Cl.C} (h : OwnC w base (.slice (some ⟨g, 0, none⟩) n c) l) (hn : l.length = n) (hk : k < n) (x : Cl.C) :
    OwnC (((w.setCell ⟨g, k * 3, none⟩ (.bool x.u)).setCell ⟨g, k * 3 + 1, none⟩ (.int .i64 x.n)).setCell ⟨g, k * 3 + 2, none⟩ (.string x.s)) base (.slice (some ⟨g, 0, none⟩) n c) (l.set k x) := by
  subst hn
  unfold OwnC Gn.Own at h ⊢
  rw [List.length_set]
  have h3 := (((h.stored (k * 3) (.bool x.u)).1.stored (k * 3 + 1) (.int .i64 x.n)).1.stored (k * 3 + 2) (.string x.s)).1
  rw [clc_set3 _ _ _ hk] at h3
  exact h3
theorem liesC {w : World} {base g n c k : Nat} {l : List Cl.C} (h : OwnC w base (.slice (some ⟨g, 0, none⟩) n c) l) (hn : l.length = n) (hk : k < n) :
    (∃ a b d, w.cell? ⟨g, k * 3, none⟩ = some a ∧ w.cell? ⟨g, k * 3 + 1, none⟩ = some b ∧ w.cell? ⟨g, k * 3 + 2, none⟩ = some d) ∧ w.frozen? ⟨g, k * 3, none⟩ = false ∧ w.frozen? ⟨g, k * 3 + 1, none⟩ = false ∧ w.frozen? ⟨g, k * 3 + 2, none⟩ = false := by
  subst hn
  have hc := Gn.cells_len clL l
  unfold OwnC Gn.Own at h
  have q : ∀ j, j < l.length * 3 → ∃ a, w.cell? ⟨g, j, none⟩ = some a := fun j hj => ⟨_, (h.cellAt j hj).trans (List.getElem?_eq_getElem (by rw [hc]; exact hj))⟩
  obtain ⟨a, ha⟩ := q (k * 3) (by omega)
  obtain ⟨b, hb⟩ := q (k * 3 + 1) (by omega)
  obtain ⟨d, hd⟩ := q (k * 3 + 2) (by omega)
  exact ⟨⟨a, b, d, ha, hb, hd⟩, h.frozenAt _, h.frozenAt _, h.frozenAt _⟩
theorem ownC_some {w : World} {base n c : Nat} {a : Option Addr} {l : List Cl.C} (h : OwnC w base (.slice a n c) l) (hn : 0 < n) : ∃ g, a = some ⟨g, 0, none⟩ ∧ base ≤ g ∧ l.length = n := by
  obtain ⟨h0, h1⟩ := h
  rcases h1 with ⟨e, _⟩ | ⟨g, cap, cur, e, hg, _⟩
  · injection e with _ e; omega
  · injection e with e1 e2 e3
    exact ⟨g, e1, hg, e2.symm⟩
set_option maxHeartbeats 16000000 in
theorem rowChecks (kv rv pv : Value) (K0 : List Co) (R0 : List Cl.C) (P0 : List Int) (w : World) (hk : RdK w w.heap.size kv K0) (hr : RowIn w rv R0) (hp : IntIn w pv P0) (T : TA w) :
    Calls Tryz.prog 3 #[kv, rv, pv] w fun e w' => e = .returned (.bool true) ∧ Below w.heap.size w w' := by
  have HK := Lib.hid hk
  have HP := Lib.hid hp
  have HR := Lib.hid hr
  have HT := Lib.hid (fun w1 (hb : Below w.heap.size w w1) => T.later hb)
  clear hk hp hr T
  go_enter Tryz.func3, Tryz.ntmps3
  go_wp2_with fail
  ((with_reducible refine (lColumns kv K0 w HK.out).mono ?_); rintro e w1 ⟨v1, rfl, ho, b1⟩)
  have HK1 := Lib.hid (RdK.of ho)
  have HU1 := Lib.hid b1
  clear ho b1
  go_wp2_with fail
  ((with_reducible refine (lFew pv P0 w1 (HP.out.rd.later HU1.out)).mono ?_); rintro e w2 ⟨v2, rfl, ho, b2⟩)
  have HK2 := Lib.hid (HK1.out.later b2)
  have HP2 := Lib.hid (RdI.of ho)
  have HU2 := Lib.hid (up HU1.out b2)
  clear ho b2 HK1 HU1
  go_wp2_with fail
  ((with_reducible refine (lCutR rv R0 w2 (HR.out.rd.later HU2.out) HR.out.sz).mono ?_); rintro e w3 ⟨v3, rfl, ho, b3⟩)
  have HK3 := Lib.hid (HK2.out.later b3)
  have HP3 := Lib.hid (HP2.out.later b3)
  have HI3 := Lib.hid (RdC.of ho)
  have HU3 := Lib.hid (up HU2.out b3)
  have lP : (P0.take 12).length ≤ 12 := by rw [List.length_take]; omega
  have lR := cutR_len R0
  have HOK := Lib.hid (cutR_ok (fun c hc => (HR.out.ok c hc).1) : ∀ c ∈ cutR R0, Cl.I64 c.n ∧ c.s.size ≤ 1100)
  have HCUT := Lib.hid (fun w1 (h : RdC w1 w1.heap.size rv R0) => lCutR rv R0 w1 h HR.out.sz)
  have HR3 := Lib.hid (HR.out.rd.later HU3.out)
  clear ho b3 HK2 HP2 HU2 HK HP HR
  generalize cutR R0 = r at *
  generalize P0.take 12 = F at *
  generalize K0.take 40 = K at *
  go_wp2_with fail
  ((with_reducible refine (rowCopy _ r w3 HI3.out (by omega)).mono ?_); rintro e w4 ⟨v4, rfl, ho4, b4⟩)
  obtain ⟨ca, cc, rfl, _⟩ := Gn.Rd.form (RdC.of ho4)
  have HC4 := Lib.hid ho4
  have HK4 := Lib.hid (HK3.out.later b4)
  have HP4 := Lib.hid (HP3.out.later b4)
  have HI4 := Lib.hid (HI3.out.later b4)
  have HB4 := Lib.hid b4
  have HCL := Lib.hid (fun g (h : (Value.slice ca r.length cc).ownBlock = some g) => (Gn.Own.lt ho4 g h).2)
  clear b4 ho4 HK3 HP3
  obtain ⟨⟨e1, A⟩, hX⟩ : ∃ X, Rw.pickR r F = X := ⟨_, rfl⟩
  have HPX := Lib.hid hX
  have lA : A.length ≤ 12 := by
    unfold Rw.pickR at hX
    split at hX
    · injection hX with _ h; rw [← h]; simp
    · injection hX with _ h; rw [← h, pick_len]; omega
  clear hX
  go_wp2_with fail
  ((with_reducible refine (rowPick _ _ r F w4 HI4.out HP4.out (by omega) _ HPX.out).mono ?_); rintro e w5 ⟨v5, rfl, ho5, b5⟩)
  obtain ⟨pa, pc, rfl, _⟩ := Gn.Rd.form (RdC.of ho5)
  have HA5 := Lib.hid ho5
  have HC5 := Lib.hid (OwnC.later HC4.out b5)
  have HK5 := Lib.hid (HK4.out.later b5)
  have HP5 := Lib.hid (HP4.out.later b5)
  have HI5 := Lib.hid (HI4.out.later b5)
  have HB5 := Lib.hid (up HB4.out b5)
  have HS5 := Lib.hid HB4.out.size
  clear b5 ho5 HK4 HP4 HI4 HC4 HB4
  go_wp2_with fail
  ((with_reducible refine (refPick _ _ r F w5 HI5.out HP5.out (by omega) _ _ HPX.out).mono ?_); rintro e w6 ⟨v6, rfl, hq6, b6⟩)
  have HQ6 := Lib.hid hq6
  have HA6 := Lib.hid (OwnC.later HA5.out b6)
  have HC6 := Lib.hid (OwnC.later HC5.out b6)
  have HK6 := Lib.hid (HK5.out.later b6)
  have HI6 := Lib.hid (HI5.out.later b6)
  have HB6 := Lib.hid (up HB5.out b6)
  clear b6 hq6 HK5 HP5 HI5 HC5 HB5 HA5
  obtain ⟨d, hd⟩ : ∃ d, Rw.chkR (tys K) r = d := ⟨_, rfl⟩
  have HD := Lib.hid hd
  clear hd
  have hdd : (d != d) = false := by simp
  have hee : ((e1 : Int) != (e1 : Nat)) = false := by simp
  go_wp2_with fail
  ((with_reducible refine (eqRow _ _ r r w6 (RdC.of HC6.out) HI6.out (by omega) true (by simp)).mono ?_); rintro e w7 ⟨rfl, b7⟩)
  have HQ7 := Lib.hid (HQ6.out.later b7)
  have HA7 := Lib.hid (OwnC.later HA6.out b7)
  have HC7 := Lib.hid (OwnC.later HC6.out b7)
  have HK7 := Lib.hid (HK6.out.later b7)
  have HI7 := Lib.hid (HI6.out.later b7)
  have HB7 := Lib.hid (HB6.out.trans (b7.mono HB6.out.size))
  clear b7 HQ6 HA6 HC6 HK6 HI6 HB6
  go_wp2_with fail
  ((with_reducible refine (eqRow _ _ A A w7 (RdC.of HA7.out) HQ7.out (by omega) true (by simp)).mono ?_); rintro e w8 ⟨rfl, b8⟩)
  have HA8 := Lib.hid (OwnC.later HA7.out b8)
  have HC8 := Lib.hid (OwnC.later HC7.out b8)
  have HK8 := Lib.hid (HK7.out.later b8)
  have HI8 := Lib.hid (HI7.out.later b8)
  have HB8 := Lib.hid (HB7.out.trans (b8.mono HB7.out.size))
  clear b8 HQ7 HA7 HC7 HK7 HI7 HB7
  go_wp2_with fail
  ((with_reducible refine (rowCheck _ _ K r w8 (HT.out _ (up HU3.out HB8.out)) HK8.out HI8.out (by omega) (fun c hc => (HOK.out c hc).1) (fun c hc => by have := (HOK.out c hc).2; omega) d HD.out).mono ?_); rintro e w9 ⟨rfl, b9⟩)
  have HA9 := Lib.hid (OwnC.later HA8.out b9)
  have HC9 := Lib.hid (OwnC.later HC8.out b9)
  have HK9 := Lib.hid (HK8.out.later b9)
  have HI9 := Lib.hid (HI8.out.later b9)
  have HB9 := Lib.hid (HB8.out.trans (b9.mono HB8.out.size))
  clear b9 HA8 HC8 HK8 HI8 HB8
  go_wp2_with fail
  ((with_reducible refine (rowCheckR _ _ K r w9 HK9.out HI9.out (by omega) (fun c hc => by have := (HOK.out c hc).2; omega) d HD.out).mono ?_); rintro e w10 ⟨rfl, b10⟩)
  have hAS : OwnC w10 w4.heap.size (.slice pa A.length pc) A := OwnC.later HA9.out b10
  have HAS := Lib.hid hAS
  have hCS : OwnC w10 w3.heap.size (.slice ca r.length cc) r := OwnC.later HC9.out b10
  have HCS := Lib.hid hCS
  have HBS := Lib.hid (HB9.out.trans (b10.mono HB9.out.size))
  clear b10 HA9 HC9 HK9 HI9 HB9 hAS hCS
  go_wp2_with fail
  go_loopw [13] (fun i wr => ∃ k : Nat, k ≤ r.length ∧ i = .int .i64 (k : Nat) ∧ Hid (∃ l', OwnC wr w3.heap.size (.slice ca r.length cc) l' ∧ l'.length = r.length) ∧ Hid (OwnC wr w4.heap.size (.slice pa A.length pc) A) ∧ Hid (Below w3.heap.size w3 wr)) (fun i _ => r.length - (intOf i).toNat)
  case atStart => exact ⟨0, by omega, by rfl, Lib.hid ⟨_, HCS.out, rfl⟩, HAS, HBS⟩
  case round =>
    obtain ⟨k, hk, rfl, HO, HPA, HU⟩ := hrel
    by_cases hlt : k < r.length
    · have hlt1 : (k : Int) < r.length := by omega
      obtain ⟨l', ho, hl'⟩ := HO.out
      obtain ⟨g, rfl, hg, hgl⟩ := ownC_some ho (by omega)
      obtain ⟨⟨c0, c1, c2, q0, q1, q2⟩, f0, f1, f2⟩ := liesC ho hl' hlt
      have HO2 := Lib.hid (setC ho hl' hlt ⟨false, -9, ⟨#[115, 112, 111, 105, 108, 116]⟩⟩)
      have hgb : w3.heap.size ≤ g := hg
      have HU2 := Lib.hid (((HU.out.setCell (p := ⟨g, k * 3, none⟩) hgb (.bool false)).setCell (p := ⟨g, k * 3 + 1, none⟩) hgb (.int .i64 (-9))).setCell (p := ⟨g, k * 3 + 2, none⟩) hgb (.string ⟨#[115, 112, 111, 105, 108, 116]⟩))
      have hgl2 := HCL.out g rfl
      have HPA2 := Lib.hid (ownTouch HPA.out ((((Touch.refl (fun i => i = g) wr).setCell (p := ⟨g, k * 3, none⟩) rfl (.bool false)).setCell (p := ⟨g, k * 3 + 1, none⟩) rfl (.int .i64 (-9))).setCell (p := ⟨g, k * 3 + 2, none⟩) rfl (.string ⟨#[115, 112, 111, 105, 108, 116]⟩)) (fun i hi => by omega))
      clear ho HO HU HPA
      go_wp2_with fail
      go_roundw
      case rel => exact ⟨k + 1, by omega, by go_num, Lib.hid ⟨_, HO2.out, by rw [List.length_set]; exact hl'⟩, HPA2, HU2⟩
      case measure => simp [intOf]; omega
    · have hlt1 : ¬ (k : Int) < r.length := by omega
      have HBS := HU
      have HCS2 := HPA
      clear HAS HCS HO HU HPA HCL
      go_wp2_with fail
      go_loopw [14] (fun i wr => ∃ k : Nat, k ≤ A.length ∧ i = .int .i64 (k : Nat) ∧ Hid (∃ l', OwnC wr w4.heap.size (.slice pa A.length pc) l' ∧ l'.length = A.length) ∧ Hid (Below w3.heap.size w3 wr)) (fun i _ => A.length - (intOf i).toNat)
      case atStart => exact ⟨0, by omega, by rfl, Lib.hid ⟨_, HCS2.out, rfl⟩, HBS⟩
      case round =>
        obtain ⟨k2, hk, rfl, HO, HU⟩ := hrel
        by_cases hlt : k2 < A.length
        · have hlt1 : (k2 : Int) < A.length := by omega
          obtain ⟨l', ho, hl'⟩ := HO.out
          obtain ⟨g, rfl, hg, hgl⟩ := ownC_some ho (by omega)
          obtain ⟨⟨c0, c1, c2, q0, q1, q2⟩, f0, f1, f2⟩ := liesC ho hl' hlt
          have HO2 := Lib.hid (setC ho hl' hlt ⟨false, -9, ⟨#[115, 112, 111, 105, 108, 116]⟩⟩)
          have hgb : w3.heap.size ≤ g := Nat.le_trans HS5.out hg
          have HU2 := Lib.hid (((HU.out.setCell (p := ⟨g, k2 * 3, none⟩) hgb (.bool false)).setCell (p := ⟨g, k2 * 3 + 1, none⟩) hgb (.int .i64 (-9))).setCell (p := ⟨g, k2 * 3 + 2, none⟩) hgb (.string ⟨#[115, 112, 111, 105, 108, 116]⟩))
          clear ho HO HU
          go_wp2_with fail
          go_roundw
          case rel => exact ⟨k2 + 1, by omega, by go_num, Lib.hid ⟨_, HO2.out, by rw [List.length_set]; exact hl'⟩, HU2⟩
          case measure => simp [intOf]; omega
        · have hlt1 : ¬ (k2 : Int) < A.length := by omega
          have HRE := Lib.hid (show RdC wr wr.heap.size rv R0 from (Gn.Rd.below HR3.out HU.out (Nat.le_refl _)).more HU.out.size)
          have HIE := Lib.hid (show RdC wr wr.heap.size v3 r from (Gn.Rd.below HI3.out HU.out (Nat.le_refl _)).more HU.out.size)
          have HUE := Lib.hid (up HU3.out HU.out)
          clear HO HU HBS HCS2
          go_wp2_with fail
          ((with_reducible refine (HCUT.out wr HRE.out).mono ?_); rintro e w11 ⟨v11, rfl, ho11, b11⟩)
          have HI11 := Lib.hid (HIE.out.later b11)
          have HC11 := Lib.hid (RdC.of ho11)
          have HU11 := Lib.hid (up HUE.out b11)
          clear b11 ho11
          go_wp2_with fail
          ((with_reducible refine (eqRow _ _ r r w11 HI11.out HC11.out (by omega) true (by simp)).mono ?_); rintro e w12 ⟨rfl, b12⟩)
          have HU12 := Lib.hid (up HU11.out b12)
          clear b12
          go_wp2_with fail
          ((with_reducible refine (works _ (HT.out _ HU12.out)).mono ?_); rintro e wz ⟨rfl, bz⟩)
          have HZ := Lib.hid (up HU12.out bz)
          clear bz
          go_wp2_with fail
          go_ret
          exact ⟨rfl, HZ.out⟩
end Go.Proofs.YtfplogjdcndohaaGreatDoor

/- RowKeys' walk: Key and Unkey answer as the reference's. -/
namespace Go.Proofs.YtfplogjdcndohaaGreatDoor
open Go.RowKit Go.Sort
set_option linter.unusedVariables false
set_option maxRecDepth 100000

theorem unkR_len {ts : List Rw.Ty} {ps : List Int} {l : List Nat} {e : Nat} {r : List Cl.C} (h : Rw.unkR ts ps l = (e, r)) : r.length ≤ ps.length := by
  have key : ∀ (ps : List Int) (l : List Nat), (Rw.unk ts ps l).2.1.length ≤ ps.length := by
    intro ps
    induction ps with
    | nil => intro l; exact Nat.le_refl _
    | cons p t ih =>
      intro l
      unfold Rw.unk
      simp only
      split
      · exact Nat.zero_le _
      · split
        · exact Nat.zero_le _
        · have := ih (l.drop (Cl.unb (Rw.tAt ts p).1 (Rw.tAt ts p).2 l).2.1)
          simp only [List.length_cons]
          omega
  rcases unkR_cases h with ⟨_, rfl⟩ | ⟨_, h2, _⟩
  · exact Nat.zero_le _
  · have := key ps l
    rw [h2] at this
    exact this
set_option maxHeartbeats 16000000 in
theorem rowKeys (kv pv av : Value) (K0 : List Co) (P0 : List Int) (A0 : List Cl.C) (s0 : ByteArray) (w : World) (hk : RdK w w.heap.size kv K0) (hp : IntIn w pv P0) (ha : RowIn w av A0) (hm : s0.size ≤ maxLen) (T : TA w) :
    Calls Tryz.prog 5 #[kv, pv, .agg #[av, .string s0]] w fun e w' => e = .returned (.bool true) ∧ Below w.heap.size w w' := by
  have HB0 := Lib.hid (box_new w (.cells #[av, .string s0] 39))
  have HX := Lib.hid (show Blk (w.alloc (.cells #[av, .string s0] 39)) w.heap.size 39 [av, .string s0] from Blk.new w _ _)
  have HK := Lib.hid hk
  have HP := Lib.hid hp
  have HA := Lib.hid ha
  have HT := Lib.hid (fun w1 (hb : Below w.heap.size w w1) => T.later hb)
  obtain ⟨aa, ac, rfl, _⟩ := Gn.Rd.form ha.rd
  unfold maxLen at hm
  obtain ⟨s, hs⟩ : ∃ s2, s0.extract 0 (min (s0.size : Int) 3000).toNat = s2 := ⟨_, rfl⟩
  have hsl : ∀ w, (Instr.slice 9 (.string s0) none (some (.int .i64 (min (s0.size : Int) 3000))) none).run Tryz.prog w = .ok (.string s) w := fun w => by
    rw [run_slice_string_to_if w 9 s0 .i64 _ Tryz.underlying9, if_pos (by omega), hs]
  have hss : s.size ≤ 100000 := by rw [← hs]; simp; omega
  clear hk hp ha T hs
  go_enter Tryz.func5, Tryz.ntmps5
  go_wp2_with fail
  obtain ⟨gb, hgb⟩ : ∃ g, w.heap.size = g := ⟨_, rfl⟩
  rw [hgb] at HX
  simp only [hgb]
  generalize w.alloc (.cells #[.slice aa A0.length ac, .string s0] 39) = w0 at *
  ((with_reducible refine (lColumns kv K0 w0 (HK.out.later HB0.out)).mono ?_); rintro e w2 ⟨v2, rfl, ho, b2⟩)
  have HK2 := Lib.hid (RdK.of ho)
  have HU2 := Lib.hid (up HB0.out b2)
  have HX2 := Lib.hid (Blk.later HX.out b2)
  clear ho b2 HX HB0
  go_wp2_with fail
  ((with_reducible refine (lFew pv P0 w2 (HP.out.rd.later HU2.out)).mono ?_); rintro e w3 ⟨v3, rfl, ho, b3⟩)
  have HK3 := Lib.hid (HK2.out.later b3)
  have HP3 := Lib.hid (RdI.of ho)
  have HU3 := Lib.hid (up HU2.out b3)
  have HX3 := Lib.hid (Blk.later HX2.out b3)
  clear ho b3 HK2 HU2 HX2
  have lP : (P0.take 12).length ≤ 12 := by rw [List.length_take]; omega
  have lA := cutR_len A0
  have HOA := Lib.hid (cutR_ok (fun c hc => (HA.out.ok c hc).1) : ∀ c ∈ cutR A0, Cl.I64 c.n ∧ c.s.size ≤ 1100)
  have CA := Lib.hid (fun (wx : World) (hx : Below w3.heap.size w3 wx) => cut_at w3 wx _ A0 (HA.out.later HU3.out) hx)
  generalize cutR A0 = a at *
  generalize P0.take 12 = F at *
  generalize K0.take 40 = K at *
  go_wp2_with fail
  have SK := Lib.hid (fun (w' : World) (hb : Below w3.heap.size w3 w') => (⟨hb, (Blk.later HX3.out hb).cell 0, (Blk.later HX3.out hb).cell 1⟩ : Below w3.heap.size w3 w' ∧ w'.cell? ⟨gb, 0, none⟩ = some (.slice aa A0.length ac) ∧ w'.cell? ⟨gb, 1, none⟩ = some (.string s0)))
  go_region_held3 (fun w' => Below w3.heap.size w3 w' ∧ (w'.cell? ⟨gb, 0, none⟩ = some (.slice aa A0.length ac) ∧ w'.cell? ⟨gb, 1, none⟩ = some (.string s0)))
    (first | exact SK.out _ (Below.refl _ _).drew | exact SK.out _ (Below.refl _ _) | exact SK.out _ HU5.out | fail "keep")
    ((first
      | (go_at_call 14; (with_reducible refine (CA.out _ (Below.refl _ _).drew).mono ?_); rintro e w5 ⟨va, rfl, hr, h, b⟩; have HA5 := Lib.hid hr; have HU5 := Lib.hid h; clear hr h b)))
  all_goals
    have HK5 := Lib.hid (HK3.out.later HU5.out)
    have HP5 := Lib.hid (HP3.out.later HU5.out)
    have HV5 := Lib.hid (up HU3.out HU5.out)
    have HX5 := Lib.hid (Blk.later HX3.out HU5.out)
    clear SK HK3 HP3 HX3 HK HP
    have HLA := Lib.hid (key_le (tys K) a (fun c hc => (HOA.out c hc).2) F)
    obtain ⟨⟨d1, l1⟩, h1⟩ : ∃ X, Rw.keyR (tys K) F a = X := ⟨_, rfl⟩
    obtain ⟨⟨e2, l2⟩, h2⟩ : ∃ X, Rw.unkR (tys K) F (bl s) = X := ⟨_, rfl⟩
    have H1 := Lib.hid h1
    have H2 := Lib.hid h2
    have HL2 := Lib.hid (unkR_len h2)
    clear h1 h2
    go_wp2_with fail
    ((with_reducible refine (rowKey _ _ _ K F a w5 (HT.out _ HV5.out) HK5.out HP5.out HA5.out (by omega) (by omega) (fun c hc => (HOA.out c hc).1) (fun c hc => by have := (HOA.out c hc).2; omega) (by have := HLA.out; omega) (d1, l1) H1.out (str l1) rfl).mono ?_); rintro e w6 ⟨rfl, b6⟩)
    have HK6 := Lib.hid (HK5.out.later b6)
    have HP6 := Lib.hid (HP5.out.later b6)
    have HA6 := Lib.hid (HA5.out.later b6)
    have HV6 := Lib.hid (up HV5.out b6)
    have HW6 := Lib.hid b6
    clear b6 HK5 HP5 HA5 HV5
    go_wp2_with fail
    ((with_reducible refine (rowKeyR _ _ _ K F a w6 HK6.out HP6.out HA6.out (by omega) (by omega) (fun c hc => (HOA.out c hc).1) (fun c hc => by have := (HOA.out c hc).2; omega) (by have := HLA.out; omega) (d1, l1) H1.out (str l1) rfl).mono ?_); rintro e w7 ⟨rfl, b7⟩)
    have HK7 := Lib.hid (HK6.out.later b7)
    have HP7 := Lib.hid (HP6.out.later b7)
    have HA7 := Lib.hid (HA6.out.later b7)
    have HV7 := Lib.hid (up HV6.out b7)
    have HW7 := Lib.hid (up HW6.out b7)
    clear b7 HK6 HP6 HA6 HV6 HLA H1 HW6
    go_wp2_with fail
    ((with_reducible refine (unk_at _ _ s K F w7 (HT.out _ HV7.out) HK7.out HP7.out (by omega) hss l2.length e2 l2 H2.out rfl).mono ?_); rintro e w8 ⟨a8, c8, rfl, hr8, b8⟩)
    have HQ8 := Lib.hid hr8
    have HK8 := Lib.hid (HK7.out.later b8)
    have HP8 := Lib.hid (HP7.out.later b8)
    have HA8 := Lib.hid (HA7.out.later b8)
    have HV8 := Lib.hid (up HV7.out b8)
    have HW8 := Lib.hid (up HW7.out b8)
    clear b8 hr8 HK7 HP7 HA7 HV7 HW7
    go_wp2_with fail
    ((with_reducible refine (rowUnkeyR _ _ s K F w8 HK8.out HP8.out (by omega) hss e2 l2 H2.out).mono ?_); rintro e w9 ⟨v9, rfl, hr9, b9⟩)
    have HR9 := Lib.hid hr9
    have HQ9 := Lib.hid (HQ8.out.later b9)
    have HA9 := Lib.hid (HA8.out.later b9)
    have HV9 := Lib.hid (up HV8.out b9)
    have HW9 := Lib.hid (up HW8.out b9)
    clear b9 hr9 HK8 HP8 HA8 HV8 HQ8 HW8
    generalize str l1 = x at *
    have hxx : (x.toList == x.toList) = true := by simp
    have hdd : (d1 == d1) = true := by simp
    have hee : ((e2 : Int) == (e2 : Nat)) = true := by simp
    go_wp2_with fail
    ((with_reducible refine (eqRow _ _ l2 l2 w9 HQ9.out HR9.out (by have := HL2.out; omega) true (by simp)).mono ?_); rintro e w10 ⟨rfl, b10⟩)
    have HA10 := Lib.hid (HA9.out.later b10)
    have HV10 := Lib.hid (up HV9.out b10)
    have HW10 := Lib.hid (up HW9.out b10)
    clear b10 HA9 HV9 HQ9 HR9 HW9
    have q0 : w10.cell? ⟨gb, 0, none⟩ = some (.slice aa A0.length ac) := (Blk.later HX5.out HW10.out).cell 0
    go_wp2_with fail
    ((with_reducible refine (CA.out w10 (up HU5.out HW10.out)).mono ?_); rintro e w11 ⟨v11, rfl, hr11, _, b11⟩)
    have HC11 := Lib.hid hr11
    have HA11 := Lib.hid (HA10.out.later b11)
    have HV11 := Lib.hid (up HV10.out b11)
    clear b11 hr11 q0
    go_wp2_with fail
    ((with_reducible refine (eqRow _ _ a a w11 HA11.out HC11.out (by omega) true (by simp)).mono ?_); rintro e w12 ⟨rfl, b12⟩)
    have HV12 := Lib.hid (up HV11.out b12)
    clear b12
    go_wp2_with fail
    ((with_reducible refine (works _ (HT.out _ HV12.out)).mono ?_); rintro e wz ⟨rfl, bz⟩)
    have HZ := Lib.hid (up HV12.out bz)
    clear bz
    go_wp2_with fail
    go_ret
    exact ⟨rfl, HZ.out⟩
end Go.Proofs.YtfplogjdcndohaaGreatDoor
