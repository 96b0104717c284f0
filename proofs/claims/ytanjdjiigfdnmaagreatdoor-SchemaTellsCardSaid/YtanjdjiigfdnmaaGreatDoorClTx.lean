/- The program's kinds: a cell's text, and the cell that a text may be of. -/
import Derived.Test.YtanjdjiigfdnmaaGreatDoorClRet
import Derived.Test.YtanjdjiigfdnmaaGreatDoorUpart
namespace Go.Proofs.YtanjdjiigfdnmaaGreatDoor
open Go.RowKit
set_option linter.unusedVariables false
set_option maxRecDepth 100000

theorem cBoolText (c : Cl.C) (w : World) (t : ByteArray) (ht : (if c.n = 1 then Cl.trueB else Cl.falseB) = t) : Calls Tryz.prog 109 #[cv c] w fun e w' => e = .returned (.string t) ∧ Below w.heap.size w w' := by
  obtain ⟨u, n, s⟩ := c
  unfold cv
  simp only at ht ⊢
  by_cases h : n = 1
  · subst h
    obtain rfl : Cl.trueB = t := by simpa using ht
    clear ht
    go_enter Tryz.func109, Tryz.ntmps109
    go_wp2_with fail
    ((with_reducible refine (Tryz.strconv_FormatBool _ _).mono ?_); rintro e w1 ⟨rfl, rfl⟩)
    go_wp2_with fail
    go_ret
    exact ⟨rfl, box_new _ _⟩
  · have h2 : (n == 1) = false := by simpa using h
    obtain rfl : Cl.falseB = t := by simpa [h] using ht
    clear h ht
    go_enter Tryz.func109, Tryz.ntmps109
    go_wp2_with fail
    ((with_reducible refine (Tryz.strconv_FormatBool _ _).mono ?_); rintro e w1 ⟨rfl, rfl⟩)
    go_wp2_with fail
    go_ret
    exact ⟨rfl, box_new _ _⟩
theorem te : (⟨#[116, 114, 117, 101]⟩ : ByteArray).toList = [116, 114, 117, 101] := by rw [Lib.toList_data]
theorem cGuessBool (s : ByteArray) (w : World) (n : Int) (hn : (if s = Cl.trueB then 1 else 0) = n) : Calls Tryz.prog 110 #[.string s] w fun e w' => e = .returned (cv ⟨false, n, ⟨#[]⟩⟩) ∧ Below w.heap.size w w' := by
  by_cases h : s = Cl.trueB
  · have h2 : (s.toList == [116, 114, 117, 101]) = true := by
      rw [← te, bl_eq]; exact decide_eq_true (by rw [h]; rfl)
    obtain rfl : 1 = n := by rw [← hn, if_pos h]
    clear h hn
    go_enter Tryz.func110, Tryz.ntmps110
    go_wp2_with fail
    exact bodyPost_ret (ret1 rfl _ _ w.heap.size _ rfl (heap_alloc_new w _)) rfl ⟨rfl, box_new _ _⟩
  · have h2 : (s.toList == [116, 114, 117, 101]) = false := by
      rw [← te, bl_eq]; exact decide_eq_false fun e => h (bl_inj e)
    obtain rfl : 0 = n := by rw [← hn, if_neg h]
    clear h hn
    go_enter Tryz.func110, Tryz.ntmps110
    go_wp2_with fail
    exact bodyPost_ret (ret1 rfl _ _ w.heap.size _ rfl (heap_alloc_new w _)) rfl ⟨rfl, box_new _ _⟩
theorem cWholeText (c : Cl.C) (w : World) (T : TabP w) (hi : Cl.I64 c.n) : Calls Tryz.prog 114 #[cv c] w fun e w' => e = .returned (.string (itS c.n)) ∧ Below w.heap.size w w' := by
  obtain ⟨u, n, s⟩ := c
  unfold cv
  simp only at hi ⊢
  have HC := Lib.hid (fun (w1 : World) (h : Below w.heap.size w w1) => jfmt n hi.1 hi.2 w1 (T.later h))
  clear hi T
  go_enter Tryz.func114, Tryz.ntmps114
  go_wp2_with fail
  ((with_reducible refine (HC.out _ (box_new _ _)).mono ?_); rintro e w1 ⟨rfl, b1⟩)
  go_wp2_with fail
  go_ret
  exact ⟨rfl, (box_new w _).trans (b1.mono (by simp))⟩
theorem cUtfText (c : Cl.C) (w : World) (T : Tab w) (hm : c.s.size ≤ 1000000) (h : Utf.vld (bl c.s) = true) : Calls Tryz.prog 120 #[cv c] w fun e w' => e = .returned (.string (str (Utf.tidy (bl c.s)))) ∧ Below w.heap.size w w' := by
  obtain ⟨u, n, s⟩ := c
  unfold cv
  simp only at hm h ⊢
  have HC := Lib.hid (fun (w1 : World) (h1 : Below w.heap.size w w1) => quote_yes s w1 (T.later h1) hm h)
  clear hm T h
  go_enter Tryz.func120, Tryz.ntmps120
  go_wp2_with fail
  ((with_reducible refine (HC.out _ (box_new _ _)).mono ?_); rintro e w1 ⟨rfl, b1⟩)
  go_wp2_with fail
  go_ret
  exact ⟨rfl, (box_new w _).trans (b1.mono (by simp))⟩
theorem cGuessWhole (s : ByteArray) (w : World) (T : TabE w) (hm : s.size ≤ 1000000) : Calls Tryz.prog 115 #[.string s] w fun e w' => ∃ z, e = .returned (cv ⟨false, z, ⟨#[]⟩⟩) ∧ Cl.I64 z ∧ (∀ n, Cl.I64 n → s = itS n → z = n) ∧ Below w.heap.size w w' := by
  have HC := Lib.hid (fun (w1 : World) (h : Below w.heap.size w w1) => parse_any s (by omega) w1 (T.later h))
  clear hm T
  go_enter Tryz.func115, Tryz.ntmps115
  go_wp2_with fail
  ((with_reducible refine (HC.out _ (box_new _ _)).mono ?_); rintro e w1 ⟨z, x, rfl, hz, hq, b1⟩)
  have V := (CV.new w false 0 ⟨#[]⟩).later b1
  have HV := Lib.hid V
  obtain ⟨k0, k1, k2⟩ := V.lie
  obtain ⟨f0, f1, f2⟩ := V.free
  have B1 := Lib.hid ((box_new w _).trans (b1.mono (by simp)))
  have HQ := Lib.hid hq
  have HZ := Lib.hid hz
  clear b1 V hq hz
  go_wp2_with fail
  exact bodyPost_ret (ret1 rfl _ _ w.heap.size _ rfl (HV.out.put _ _ _).heap) rfl ⟨_, rfl, HZ.out, HQ.out, put_below (Nat.le_refl _) B1.out _ _ _⟩
theorem cGuessUtf (s : ByteArray) (w : World) (T : Tab w) (hm : s.size ≤ 1000000) (t : List Nat) (n0 e0 : Nat) (hu : Utf.unq (bl s) = (t, n0, e0)) : Calls Tryz.prog 121 #[.string s] w fun e w' => e = .returned (cv ⟨false, 0, str t⟩) ∧ Below w.heap.size w w' := by
  have HC := Lib.hid (fun (w1 : World) (h : Below w.heap.size w w1) => unquote s w1 (T.later h) hm t n0 e0 hu)
  clear hm T hu
  go_enter Tryz.func121, Tryz.ntmps121
  go_wp2_with fail
  ((with_reducible refine (HC.out _ (box_new _ _)).mono ?_); rintro e w1 ⟨rfl, b1⟩)
  unfold quad
  have V := (CV.new w false 0 ⟨#[]⟩).later b1
  have HV := Lib.hid V
  obtain ⟨k0, k1, k2⟩ := V.lie
  obtain ⟨f0, f1, f2⟩ := V.free
  have B1 := Lib.hid ((box_new w _).trans (b1.mono (by simp)))
  clear b1 V
  go_wp2_with fail
  exact bodyPost_ret (ret1 rfl _ _ w.heap.size _ rfl (HV.out.put _ _ _).heap) rfl ⟨rfl, put_below (Nat.le_refl _) B1.out _ _ _⟩
end Go.Proofs.YtanjdjiigfdnmaaGreatDoor
