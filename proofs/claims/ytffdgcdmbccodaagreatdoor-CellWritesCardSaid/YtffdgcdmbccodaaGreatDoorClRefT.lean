/- The reference's figures, Digits, Hex, text and Text. -/
import Derived.Test.YtffdgcdmbccodaaGreatDoorClRef
import Derived.Test.YtffdgcdmbccodaaGreatDoorRquote
import Derived.Deep.QuietTactic
namespace Go.Proofs.YtffdgcdmbccodaaGreatDoor
open Go.RowKit
set_option linter.unusedVariables false
set_option maxRecDepth 100000

theorem dcs_lens : ∀ (u k : Nat), u < 10 ^ (k + 1) → (Jr.dcs u).length ≤ k + 1
  | u, 0, h => by rw [Jr.dcs_small (by simpa using h)]; simp
  | u, k + 1, h => by
    by_cases h1 : u < 10
    · rw [Jr.dcs_small h1]; simp
    · rw [Jr.dcs_big h1, List.length_append]
      have := dcs_lens (u / 10) k (by rw [Nat.pow_succ] at h; omega)
      simp; omega
theorem ten_cut (d : Nat) (hd : d < 10) (w : World) : (Instr.slice 9 (.string ⟨#[48, 49, 50, 51, 52, 53, 54, 55, 56, 57]⟩) (some (.int .u64 (d : Nat))) (some (.int .u64 ((d : Nat) + 1))) none).run Tryz.prog w = .ok (.string (str [48 + d])) w := by
  have : d = 0 ∨ d = 1 ∨ d = 2 ∨ d = 3 ∨ d = 4 ∨ d = 5 ∨ d = 6 ∨ d = 7 ∨ d = 8 ∨ d = 9 := by omega
  rcases this with rfl | rfl | rfl | rfl | rfl | rfl | rfl | rfl | rfl | rfl <;> (rw [run_slice_string_if (h := Tryz.underlying9)]; rfl)
set_option maxHeartbeats 1000000 in
theorem rFigures : ∀ (n : Nat) (hn : n < 18446744073709551616) (w : World), Calls Tryz.prog 165 #[.int .u64 (n : Nat)] w fun e w' => e = .returned (.string (str (Jr.dcs n))) ∧ w = w' := by
  intro n
  induction n using Nat.strongRecOn with
  | _ n ih =>
    intro hn w
    obtain ⟨d, hd⟩ : ∃ d, n % 10 = d := ⟨_, rfl⟩
    have hd10 : d < 10 := by omega
    have HS := ten_cut d hd10
    have hdi : (n : Int) % 10 = (d : Int) := by omega
    have hw1 : IntKind.u64.wrap ((d : Int) + 1) = (d : Int) + 1 := by simp [IntKind.wrap, IntKind.bits, IntKind.signed]; omega
    by_cases h : n < 10
    · obtain rfl : d = n := by omega
      rw [Jr.dcs_small h]
      have hi : (d : Int) < 10 := by omega
      clear ih
      go_enter Tryz.func165, Tryz.ntmps165
      go_wp2_with fail
      go_ret
      exact ⟨rfl, rfl⟩
    · rw [Jr.dcs_big h, hd, str_append]
      have hi : ¬ (n : Int) < 10 := by omega
      obtain ⟨m, hm⟩ : ∃ m, n / 10 = m := ⟨_, rfl⟩
      have hq : (n : Int) / 10 = (m : Int) := by omega
      have hn0 : 0 ≤ (n : Int) := by omega
      have hn1 : (n : Int) ≤ 18446744073709551615 := by omega
      have CI := Lib.hid (ih m (by omega) (by omega) w)
      rw [hm]
      have hsz : (str (Jr.dcs m)).size + (str [48 + d]).size ≤ 9223372036854775807 := by
        rw [str_size, str_size]
        have := dcs_lens m 19 (by omega)
        simp; omega
      clear ih hm
      go_enter Tryz.func165, Tryz.ntmps165
      go_wp2_with fail
      ((with_reducible refine CI.out.mono ?_); rintro e w1 ⟨rfl, rfl⟩)
      go_wp2_with fail
      go_ret
      exact ⟨rfl, rfl⟩
theorem its_str (n : Int) : itS n = str (Jr.sgn (decide (n < 0)) ++ Jr.dcs n.natAbs) := by
  apply bl_inj
  rw [itS_bl, bl_str _ (fun x hx => by
    have := bl_byte (itS n) x
    rw [itS_bl, List.append_nil] at this
    exact this hx), List.append_nil]
set_option maxHeartbeats 1000000 in
theorem rDigits (n : Int) (hi : Cl.I64 n) (w : World) : Calls Tryz.prog 135 #[.int .i64 n] w fun e w' => e = .returned (.string (itS n)) ∧ w = w' := by
  obtain ⟨h1, h2⟩ := hi
  obtain ⟨m, hm⟩ : ∃ m, n.natAbs = m := ⟨_, rfl⟩
  have CF := Lib.hid (rFigures m (by omega) w)
  rw [its_str, hm]
  have hsz : ((⟨#[45]⟩ : ByteArray)).size + (str (Jr.dcs m)).size ≤ 9223372036854775807 := by
    rw [str_size]
    have := dcs_lens m 19 (by omega)
    have h3 : (⟨#[45]⟩ : ByteArray).size = 1 := rfl
    omega
  by_cases h : n < 0
  · have hx : str (Jr.sgn (decide (n < 0)) ++ Jr.dcs m) = ⟨#[45]⟩ ++ str (Jr.dcs m) := by
      rw [decide_eq_true h]
      show str ([45] ++ Jr.dcs m) = _
      rw [str_append]; rfl
    rw [hx]
    have hz : IntKind.u64.wrap (-(n + 1)) + 1 = (m : Int) := by simp [IntKind.wrap, IntKind.bits, IntKind.signed]; omega
    clear hx
    go_enter Tryz.func135, Tryz.ntmps135
    go_wp2_with fail
    rw [show -(n + 1) + 1 = (m : Int) by omega]
    ((with_reducible refine CF.out.mono ?_); rintro e w1 ⟨rfl, rfl⟩)
    go_wp2_with fail
    go_ret
    exact ⟨rfl, rfl⟩
  · have hx : str (Jr.sgn (decide (n < 0)) ++ Jr.dcs m) = str (Jr.dcs m) := by
      rw [decide_eq_false h]; rfl
    rw [hx]
    obtain rfl : n = (m : Int) := by omega
    have hz : IntKind.u64.wrap (m : Int) = (m : Int) := by simp [IntKind.wrap, IntKind.bits, IntKind.signed]; omega
    clear hx hm
    go_enter Tryz.func135, Tryz.ntmps135
    go_wp2_with fail
    ((with_reducible refine CF.out.mono ?_); rintro e w1 ⟨rfl, rfl⟩)
    go_wp2_with fail
    go_ret
    exact ⟨rfl, rfl⟩
theorem hex_cut (d : Nat) (hd : d < 16) (w : World) : (Instr.slice 9 (.string ⟨#[48, 49, 50, 51, 52, 53, 54, 55, 56, 57, 97, 98, 99, 100, 101, 102]⟩) (some (.int .u8 (d : Nat))) (some (.int .u8 ((d : Nat) + 1))) none).run Tryz.prog w = .ok (.string (str [Utf.hex d])) w := by
  have : d = 0 ∨ d = 1 ∨ d = 2 ∨ d = 3 ∨ d = 4 ∨ d = 5 ∨ d = 6 ∨ d = 7 ∨ d = 8 ∨ d = 9 ∨ d = 10 ∨ d = 11 ∨ d = 12 ∨ d = 13 ∨ d = 14 ∨ d = 15 := by omega
  rcases this with rfl | rfl | rfl | rfl | rfl | rfl | rfl | rfl | rfl | rfl | rfl | rfl | rfl | rfl | rfl | rfl <;> (rw [run_slice_string_if (h := Tryz.underlying9)]; rfl)
set_option maxHeartbeats 2000000 in
theorem rHex (s : ByteArray) (hm : s.size ≤ 1000000) (w : World) : Calls Tryz.prog 137 #[.string s] w fun e w' => e = .returned (.string (str (Cl.hexs (bl s)))) ∧ Below w.heap.size w w' := by
  have B0 := Lib.hid (Below.refl w.heap.size w)
  go_enter Tryz.func137, Tryz.ntmps137
  go_wp2_with fail
  go_loopw [3, 4] (fun a i wr => ∃ k : Nat, k ≤ s.size ∧ a = .string (str (Cl.hexs ((bl s).take k))) ∧ i = .int .i64 k ∧ Hid (Below w.heap.size w wr)) (fun _ i _ => s.size - (intOf i).toNat)
  case atStart => exact ⟨0, by omega, by rw [List.take_zero]; rfl, rfl, B0⟩
  case round =>
    obtain ⟨k, hk, rfl, rfl, HS⟩ := hrel
    by_cases hlt : k < s.size
    · have hb : (bl s).getD k 0 < 256 := bl_byte s _ (by rw [List.getD_eq_getElem?_getD, List.getElem?_eq_getElem (by rw [bl_length]; omega)]; simp)
      have h4 := bl_at s k hlt
      have HH := Lib.hid (show str (Cl.hexs ((bl s).take (k + 1))) = str (Cl.hexs ((bl s).take k)) ++ str [Utf.hex ((bl s).getD k 0 / 16)] ++ str [Utf.hex ((bl s).getD k 0 % 16)] by rw [hexs_take (bl s) k (by rw [bl_length]; omega), str_append, str_append])
      have hlen : (str (Cl.hexs ((bl s).take k))).size ≤ 2 * s.size := by
        rw [str_size, Cl.hexs_len, List.length_take, bl_length]; omega
      generalize (bl s).getD k 0 = x at *
      obtain ⟨p, hp⟩ : ∃ p, x / 16 = p := ⟨_, rfl⟩
      obtain ⟨q, hq⟩ : ∃ q, x % 16 = q := ⟨_, rfl⟩
      rw [hp, hq] at HH
      generalize str (Cl.hexs ((bl s).take k)) = y at *
      have c1 := hex_cut p (by omega)
      have c2 := hex_cut q (by omega)
      have e1 : (x : Int) / 16 = (p : Int) := by omega
      have e2 : (x : Int) % 16 = (q : Int) := by omega
      have e3 : IntKind.u8.wrap (p : Int) = (p : Int) := IntWalk.u8_in _ ⟨by omega, by omega⟩
      have e4 : (x : Int).tmod 16 = (q : Int) := by rw [Int.tmod_eq_emod_of_nonneg (by omega)]; exact e2
      have e5 : (x : Int).tdiv 16 = (p : Int) := by rw [Int.tdiv_eq_ediv_of_nonneg (by omega)]; exact e1
      have e6 : IntKind.u8.wrap ((p : Int) + 1) = (p : Int) + 1 := IntWalk.u8_in _ ⟨by omega, by omega⟩
      have e7 : IntKind.u8.wrap ((q : Int) + 1) = (q : Int) + 1 := IntWalk.u8_in _ ⟨by omega, by omega⟩
      have z1 : (str [Utf.hex p]).size = 1 := by rw [str_size]; rfl
      have z2 : (str [Utf.hex q]).size = 1 := by rw [str_size]; rfl
      have a1 := fun w => run_string_add_sum (w := w) (P := Tryz.prog) y (str [Utf.hex p]) (by omega)
      have a2 := fun w => run_string_add_sum (w := w) (P := Tryz.prog) (y ++ str [Utf.hex p]) (str [Utf.hex q]) (by rw [ByteArray.size_append]; omega)
      clear hp hq
      go_wp2_with fail
      go_quiet (fail)
      have HN := Lib.hid (show Below w.heap.size w (wr.drewN nq) from HS.out.trans ⟨rfl, rfl, rfl, Nat.le_refl _, fun _ _ => rfl⟩)
      clear a1 a2 c1 c2
      go_wp2_with fail
      go_roundw
      case rel => exact ⟨k + 1, by omega, by rw [HH.out], by go_num, HN⟩
      case measure => simp [intOf]; omega
    · have HF := Lib.hid (show (bl s).take k = bl s by rw [List.take_of_length_le (by rw [bl_length]; omega)])
      have hki : ¬ (k : Int) < (s.size : Int) := by omega
      go_wp2_with fail
      go_ret
      exact ⟨by rw [HF.out]; rfl, HS.out⟩
set_option maxHeartbeats 1000000 in
theorem rtext1 (u : Bool) (n : Int) (s : ByteArray) (w : World) (hk : Cl.isK 1 ⟨false, n, s⟩ = true) (hi : Cl.I64 n) (hm : s.size ≤ 1000000) : Calls Tryz.prog 76 #[tv u 1, cv ⟨false, n, s⟩] w fun e w' => e = .returned (.string (Cl.txt 1 ⟨false, n, s⟩)) ∧ Below w.heap.size w w' := by
  have B0 := Lib.hid (BX.start w u 1 ⟨false, n, s⟩)
  simp only at B0
  unfold tv cv
  simp only
  clear hk
  by_cases hn : n = 1
  · subst hn
    go_enter Tryz.func76, Tryz.ntmps76
    go_wp2_with fail
    go_ret
    exact ⟨rfl, B0.out.b⟩
  · have d1 : (n == 1) = false := by simp [hn]
    have ht : Cl.txt 1 ⟨false, n, s⟩ = Cl.falseB := by simp [Cl.txt, hn]
    rw [ht]
    go_enter Tryz.func76, Tryz.ntmps76
    go_wp2_with fail
    go_ret
    exact ⟨rfl, B0.out.b⟩
set_option maxHeartbeats 1000000 in
theorem rtext2 (u : Bool) (n : Int) (s : ByteArray) (w : World) (hk : Cl.isK 2 ⟨false, n, s⟩ = true) (hi : Cl.I64 n) (hm : s.size ≤ 1000000) : Calls Tryz.prog 76 #[tv u 2, cv ⟨false, n, s⟩] w fun e w' => e = .returned (.string (Cl.txt 2 ⟨false, n, s⟩)) ∧ Below w.heap.size w w' := by
  have B0 := Lib.hid (BX.start w u 2 ⟨false, n, s⟩)
  simp only at B0
  unfold tv cv
  simp only
  have CD := fun w => rDigits n hi w
  have CD := Lib.hid CD
  clear hk
  go_enter Tryz.func76, Tryz.ntmps76
  go_wp2_with fail
  ((with_reducible refine (CD.out _).mono ?_); rintro e w1 ⟨rfl, rfl⟩)
  go_wp2_with fail
  go_ret
  exact ⟨rfl, B0.out.b⟩
set_option maxHeartbeats 1000000 in
theorem rtext3 (u : Bool) (n : Int) (s : ByteArray) (w : World) (hk : Cl.isK 3 ⟨false, n, s⟩ = true) (hi : Cl.I64 n) (hm : s.size ≤ 1000000) : Calls Tryz.prog 76 #[tv u 3, cv ⟨false, n, s⟩] w fun e w' => e = .returned (.string (Cl.txt 3 ⟨false, n, s⟩)) ∧ Below w.heap.size w w' := by
  have B0 := Lib.hid (BX.start w u 3 ⟨false, n, s⟩)
  simp only at B0
  unfold tv cv
  simp only
  have CD := fun w => rDigits n hi w
  have CD := Lib.hid CD
  clear hk
  go_enter Tryz.func76, Tryz.ntmps76
  go_wp2_with fail
  ((with_reducible refine (CD.out _).mono ?_); rintro e w1 ⟨rfl, rfl⟩)
  go_wp2_with fail
  go_ret
  exact ⟨rfl, B0.out.b⟩
set_option maxHeartbeats 1000000 in
theorem rtext5 (u : Bool) (n : Int) (s : ByteArray) (w : World) (hk : Cl.isK 5 ⟨false, n, s⟩ = true) (hi : Cl.I64 n) (hm : s.size ≤ 1000000) : Calls Tryz.prog 76 #[tv u 5, cv ⟨false, n, s⟩] w fun e w' => e = .returned (.string (Cl.txt 5 ⟨false, n, s⟩)) ∧ Below w.heap.size w w' := by
  have B0 := Lib.hid (BX.start w u 5 ⟨false, n, s⟩)
  simp only at B0
  unfold tv cv
  simp only
  have CD := Lib.hid (fun w => rHex s hm w)
  have hsz : (⟨#[120]⟩ : ByteArray).size + (str (Cl.hexs (bl s))).size ≤ 9223372036854775807 := by
    rw [str_size, Cl.hexs_len, bl_length]
    have h3 : (⟨#[120]⟩ : ByteArray).size = 1 := rfl
    omega
  have ht : Cl.txt 5 ⟨false, n, s⟩ = ⟨#[120]⟩ ++ str (Cl.hexs (bl s)) := by
    show str ([120] ++ Cl.hexs (bl s)) = _
    rw [str_append]; rfl
  rw [ht]
  clear hk ht
  go_enter Tryz.func76, Tryz.ntmps76
  go_wp2_with fail
  ((with_reducible refine (CD.out _).mono ?_); rintro e w1 ⟨rfl, b1⟩)
  have BB := Lib.hid (up B0.out.b b1)
  clear b1
  go_wp2_with fail
  go_ret
  exact ⟨rfl, BB.out⟩
set_option maxHeartbeats 1000000 in
theorem rtext4 (u : Bool) (n : Int) (s : ByteArray) (w : World) (hk : Cl.isK 4 ⟨false, n, s⟩ = true) (hi : Cl.I64 n) (hm : s.size ≤ 1000000) : Calls Tryz.prog 76 #[tv u 4, cv ⟨false, n, s⟩] w fun e w' => e = .returned (.string (Cl.txt 4 ⟨false, n, s⟩)) ∧ Below w.heap.size w w' := by
  have B0 := Lib.hid (BX.start w u 4 ⟨false, n, s⟩)
  simp only at B0
  unfold tv cv
  simp only
  have hv : Utf.vld (bl s) = true := ((isK_at hk).2.2.2.1 rfl).2.2
  have CD := Lib.hid (fun w => rquote_yes s w hm hv)
  clear hk hv
  go_enter Tryz.func76, Tryz.ntmps76
  go_wp2_with fail
  ((with_reducible refine (CD.out _).mono ?_); rintro e w1 ⟨rfl, b1⟩)
  have BB := Lib.hid (up B0.out.b b1)
  clear b1
  go_wp2_with fail
  go_ret
  exact ⟨rfl, BB.out⟩
theorem rtextNull (u : Bool) (k : Int) (n : Int) (s : ByteArray) (w : World) : Calls Tryz.prog 76 #[tv u k, cv ⟨true, n, s⟩] w fun e w' => e = .returned (.string (Cl.txt k ⟨true, n, s⟩)) ∧ Below w.heap.size w w' := by
  have B0 := Lib.hid (BX.start w u k ⟨true, n, s⟩)
  simp only at B0
  unfold tv cv
  simp only
  go_enter Tryz.func76, Tryz.ntmps76
  go_wp2_with fail
  go_ret
  exact ⟨rfl, B0.out.b⟩
theorem rtexts (u : Bool) (k : Int) (c : Cl.C) (w : World) (hk : Cl.may k = true) (hc : Cl.of u k c = true) (hi : Cl.I64 c.n) (hm : c.s.size ≤ 1000000) : Calls Tryz.prog 76 #[tv u k, cv c] w fun e w' => e = .returned (.string (Cl.txt k c)) ∧ Below w.heap.size w w' := by
  obtain ⟨c0, n, s⟩ := c
  cases c0
  · have hK : Cl.isK k ⟨false, n, s⟩ = true := by
      rcases Cl.of_parts hc with h | h
      · exact absurd h.1 (by simp)
      · exact h.2
    obtain ⟨h1, h2⟩ := Cl.may_le hk
    have : k = 1 ∨ k = 2 ∨ k = 3 ∨ k = 4 ∨ k = 5 := by omega
    rcases this with rfl | rfl | rfl | rfl | rfl
    · exact rtext1 u n s w hK hi hm
    · exact rtext2 u n s w hK hi hm
    · exact rtext3 u n s w hK hi hm
    · exact rtext4 u n s w hK hi hm
    · exact rtext5 u n s w hK hi hm
  · exact rtextNull u k n s w
theorem rText (u : Bool) (k : Int) (c : Cl.C) (w : World) (hi : Cl.I64 c.n) (hm : c.s.size ≤ 1000000) (e0 : Nat) (he : Cl.chk u k c = e0) (x : ByteArray) (hx : (if e0 = 0 then Cl.txt k c else ⟨#[]⟩) = x) : Calls Tryz.prog 38 #[tv u k, cv c] w fun e w' => e = .returned (.tuple #[.string x, .int .i64 (e0 : Nat)]) ∧ Below w.heap.size w w' := by
  have B0 := Lib.hid (BX.start w u k c)
  have CC := Lib.hid (fun w => rCheck u k c w hm e0 he)
  have CT := Lib.hid (fun (h : e0 = 0) w => rtexts u k c w (Cl.chk_ok (he.trans h)).1 (Cl.chk_ok (he.trans h)).2 hi hm)
  clear he hi hm
  obtain ⟨x0, hx0⟩ : ∃ x, Cl.txt k c = x := ⟨_, rfl⟩
  rw [hx0] at hx CT
  clear hx0
  obtain ⟨c0, n, s⟩ := c
  unfold tv cv at CC CT ⊢
  simp only at CC CT B0 ⊢
  by_cases h0 : e0 = 0
  · have CU := Lib.hid (CT.out h0)
    rw [if_pos h0] at hx
    subst hx
    subst h0
    clear CT
    go_enter Tryz.func38, Tryz.ntmps38
    go_wp2_with fail
    ((with_reducible refine (CC.out _).mono ?_); rintro e w1 ⟨rfl, b1⟩)
    have B1 := Lib.hid (B0.out.later b1)
    clear b1
    obtain ⟨⟨t0, t1⟩, ⟨c0, c1, c2⟩⟩ := B1.out.lies
    simp only at c0 c1 c2
    go_wp2_with fail
    ((with_reducible refine (CU.out _).mono ?_); rintro e w2 ⟨rfl, b2⟩)
    have B2 := Lib.hid (B1.out.later b2)
    clear b2
    obtain ⟨⟨t0, t1⟩, ⟨c0, c1, c2⟩⟩ := B2.out.lies
    simp only at c0 c1 c2
    go_wp2_with fail
    go_ret2
    exact ⟨rfl, B2.out.b⟩
  · rw [if_neg h0] at hx
    subst hx
    have h1 : ((e0 : Int) != 0) = true := by simp; omega
    clear h0 CT
    go_enter Tryz.func38, Tryz.ntmps38
    go_wp2_with fail
    ((with_reducible refine (CC.out _).mono ?_); rintro e w1 ⟨rfl, b1⟩)
    have B1 := Lib.hid (B0.out.later b1)
    clear b1
    obtain ⟨⟨t0, t1⟩, ⟨c0, c1, c2⟩⟩ := B1.out.lies
    simp only at c0 c1 c2
    go_wp2_with fail
    go_ret2
    exact ⟨rfl, B1.out.b⟩
end Go.Proofs.YtffdgcdmbccodaaGreatDoor
