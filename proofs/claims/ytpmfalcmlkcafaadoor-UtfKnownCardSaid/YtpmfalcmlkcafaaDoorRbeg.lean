/- The reference's begins. -/
import Derived.Test.YtpmfalcmlkcafaaDoorResc
import Derived.Test.YtpmfalcmlkcafaaDoorTidy
namespace Go.Proofs.YtpmfalcmlkcafaaDoor
open Go.RowKit
set_option linter.unusedVariables false

theorem pad_self (l : List Nat) (c : Nat) : Utf.pad l l.length c = l := by simp [Utf.pad]
theorem pad_more (l : List Nat) (j c : Nat) (h : l.length ≤ j) : Utf.pad l (j + 1) c = Utf.pad l j c ++ [c] := by
  unfold Utf.pad
  rw [show j + 1 - l.length = (j - l.length) + 1 by omega, List.replicate_succ', List.append_assoc]
theorem pad_len (l : List Nat) (j c : Nat) (h : l.length ≤ j) : (Utf.pad l j c).length = j := by simp [Utf.pad]; omega
/-- Next, and whether as many bytes as asked were the rune's. -/
theorem rnext_is (s : ByteArray) (k : Nat) (w : World) (hm : s.size ≤ maxLen) (hk : 0 < k) : ∃ (r : Int) (a : Nat) (ok : Bool), (ok = true ∧ ((a : Int) == k) = decide (Utf.nw (bl s) = k) ∨ ok = false ∧ Utf.nw (bl s) ≠ k) ∧
    Calls Tryd.prog 21 #[.string s] w fun e w' => e = .returned (.tuple #[.int .i32 r, .int .i64 (a : Nat), .bool ok]) ∧ Below w.heap.size w w' := by
  by_cases h : Utf.nw (bl s) = 0
  · exact ⟨0, 0, false, .inr ⟨rfl, by omega⟩, rnext_no s w hm h⟩
  · refine ⟨_, Utf.nw (bl s), true, .inl ⟨rfl, ?_⟩, rnext_yes s w hm h⟩
    rw [Bool.eq_iff_iff]; simp; omega
set_option maxHeartbeats 4000000 in
set_option maxRecDepth 100000 in
theorem rbegins (s : ByteArray) (w : World) (h0 : 0 < s.size) (hm : s.size ≤ 1000000) (r : Bool) (hr : (!Utf.full (bl s)) = r) :
    Calls Tryd.prog 22 #[.string s] w fun e w' => e = .returned (.bool r) ∧ Below w.heap.size w w' := by
  have hne : bl s ≠ [] := fun e => by have := bl_nil.1 e; omega
  have HF := Lib.hid (Utf.full_false (bl s) hne)
  have HG := Lib.hid (Utf.full_true (bl s) (bl_byte s) hne)
  have HR := Lib.hid hr
  have HL := Lib.hid (bl_length s)
  clear hr hne
  go_enter Tryd.func22, Tryd.ntmps22
  go_wp2
  go_loopw [3] (fun i wr => ∃ k : Nat, s.size < k ∧ k ≤ s.size + 5 ∧ i = .int .i64 k ∧ (∀ m, s.size < m → m < k → Utf.nw (Utf.pad (bl s) m 128) ≠ m ∧ Utf.nw (Utf.pad (bl s) m 191) ≠ m) ∧ Below w.heap.size w wr) (fun i _ => 5 - (intOf i).toNat)
  case atStart => exact ⟨s.size + 1, by omega, by omega, by go_num, fun m h1 h2 => by omega, Below.refl _ _⟩
  case round =>
    obtain ⟨k, hk1, hk2, rfl, hno, hb⟩ := hrel
    have HB := Lib.hid hb
    have HN := Lib.hid hno
    clear hb hno
    by_cases hk4 : k ≤ 4
    · have hk4' : (k : Int) ≤ 4 := by omega
      go_wp2
      go_loop [4, 5] (fun a b => ∃ (j : Nat) (lo hi : ByteArray), s.size ≤ j ∧ j ≤ k ∧ a = .string lo ∧ b = .string hi ∧ lo.size = j ∧ Hid (bl lo = Utf.pad (bl s) j 128) ∧ Hid (bl hi = Utf.pad (bl s) j 191)) (fun a _ => k - sz a)
      case atStart => exact ⟨s.size, s, s, by omega, by omega, rfl, rfl, rfl, Lib.hid (by rw [← HL.out, pad_self]), Lib.hid (by rw [← HL.out, pad_self])⟩
      case round =>
        obtain ⟨j, lo, hi, hj1, hj2, rfl, rfl, hlo, HLo, HHi⟩ := hrel
        have hhi : hi.size = j := by rw [← bl_length, HHi.out, pad_len _ _ _ (by rw [HL.out]; omega)]
        by_cases hjk : j < k
        · have hjk' : (lo.size : Int) < k := by omega
          have hn1 := no_over lo ⟨#[128]⟩ (by rw [show (⟨#[128]⟩ : ByteArray).size = 1 from rfl]; omega)
          have hn2 := no_over hi ⟨#[191]⟩ (by rw [show (⟨#[191]⟩ : ByteArray).size = 1 from rfl]; omega)
          have q1 := Lib.hid (show bl (lo ++ ⟨#[128]⟩) = Utf.pad (bl s) (j + 1) 128 by rw [bl_append, HLo.out, pad_more _ _ _ (by rw [HL.out]; omega)]; rfl)
          have q2 := Lib.hid (show bl (hi ++ ⟨#[191]⟩) = Utf.pad (bl s) (j + 1) 191 by rw [bl_append, HHi.out, pad_more _ _ _ (by rw [HL.out]; omega)]; rfl)
          have hz := Lib.hid (show (lo ++ ⟨#[128]⟩).size = j + 1 by rw [ByteArray.size_append, hlo]; rfl)
          have HLO := Lib.hid hlo
          clear hlo hhi
          go_wp2
          go_round
          case rel => exact ⟨j + 1, _, _, by omega, by omega, rfl, rfl, hz.out, q1, q2⟩
          case measure =>
            have h1 := HLO.out
            have h2 := hz.out
            rw [ByteArray.size_append] at h2
            simp [sz]
            omega
        · have hjk' : ¬ (lo.size : Int) < k := by omega
          obtain rfl : j = k := by omega
          obtain ⟨r1, a1, ok1, hok1, C1⟩ := rnext_is lo j wr (by unfold maxLen; omega) (by omega)
          have hC2 := fun wx => rnext_is hi j wx (by unfold maxLen; omega) (by omega)
          rw [HLo.out] at hok1
          have HO1 := Lib.hid hok1
          clear hok1 hlo hhi
          go_wp2_with fail
          ((with_reducible refine C1.mono ?_); rintro x w1 ⟨rfl, b1⟩)
          obtain ⟨r2, a2, ok2, hok2, C2⟩ := hC2 w1
          rw [HHi.out] at hok2
          have HO2 := Lib.hid hok2
          have HB1 := Lib.hid (up HB.out b1)
          clear hok2 b1 hC2 C1
          go_wp2_with fail
          ((with_reducible refine C2.mono ?_); rintro x w2 ⟨rfl, b2⟩)
          have HB2 := Lib.hid (up HB1.out b2)
          clear b2 C2
          rcases HO1.out with ⟨rfl, e1⟩ | ⟨rfl, e1⟩
          · by_cases h1 : Utf.nw (Utf.pad (bl s) j 128) = j
            · rw [decide_eq_true h1] at e1
              have hr : r = true := by
                rw [← HR.out]
                cases hf : Utf.full (bl s) with
                | false => rfl
                | true => exact absurd h1 (HG.out hf j 128 (by omega) (by rw [HL.out]; omega))
              have HR2 := Lib.hid hr
              clear hr
              go_wp2
              go_ret
              exact ⟨ret_bool HR2.out.symm, HB2.out⟩
            · rw [decide_eq_false h1] at e1
              rcases HO2.out with ⟨rfl, e2⟩ | ⟨rfl, e2⟩
              · by_cases h2 : Utf.nw (Utf.pad (bl s) j 191) = j
                · rw [decide_eq_true h2] at e2
                  have hr : r = true := by
                    rw [← HR.out]
                    cases hf : Utf.full (bl s) with
                    | false => rfl
                    | true => exact absurd h2 (HG.out hf j 191 (by omega) (by rw [HL.out]; omega))
                  have HR2 := Lib.hid hr
                  clear hr
                  go_wp2
                  go_ret
                  exact ⟨ret_bool HR2.out.symm, HB2.out⟩
                · rw [decide_eq_false h2] at e2
                  have HX := Lib.hid (show Utf.nw (Utf.pad (bl s) j 128) ≠ j ∧ Utf.nw (Utf.pad (bl s) j 191) ≠ j from ⟨h1, h2⟩)
                  clear h1 h2
                  go_wp2
                  go_roundw
                  case rel =>
                    exact ⟨j + 1, by omega, by omega, by go_num, fun m h1 h2 => by
                      rcases Nat.lt_or_ge m j with h | h
                      · exact HN.out m h1 h
                      · rw [show m = j by omega]; exact HX.out, HB2.out⟩
                  case measure => simp [intOf]; omega
              · have HX := Lib.hid (show Utf.nw (Utf.pad (bl s) j 128) ≠ j ∧ Utf.nw (Utf.pad (bl s) j 191) ≠ j from ⟨h1, e2⟩)
                clear h1 e2
                go_wp2
                go_roundw
                case rel =>
                  exact ⟨j + 1, by omega, by omega, by go_num, fun m h1 h2 => by
                    rcases Nat.lt_or_ge m j with h | h
                    · exact HN.out m h1 h
                    · rw [show m = j by omega]; exact HX.out, HB2.out⟩
                case measure => simp [intOf]; omega
          · rcases HO2.out with ⟨rfl, e2⟩ | ⟨rfl, e2⟩
            · by_cases h2 : Utf.nw (Utf.pad (bl s) j 191) = j
              · rw [decide_eq_true h2] at e2
                have hr : r = true := by
                  rw [← HR.out]
                  cases hf : Utf.full (bl s) with
                  | false => rfl
                  | true => exact absurd h2 (HG.out hf j 191 (by omega) (by rw [HL.out]; omega))
                have HR2 := Lib.hid hr
                clear hr
                go_wp2
                go_ret
                exact ⟨ret_bool HR2.out.symm, HB2.out⟩
              · rw [decide_eq_false h2] at e2
                have HX := Lib.hid (show Utf.nw (Utf.pad (bl s) j 128) ≠ j ∧ Utf.nw (Utf.pad (bl s) j 191) ≠ j from ⟨e1, h2⟩)
                clear e1 h2
                go_wp2
                go_roundw
                case rel =>
                  exact ⟨j + 1, by omega, by omega, by go_num, fun m h1 h2 => by
                    rcases Nat.lt_or_ge m j with h | h
                    · exact HN.out m h1 h
                    · rw [show m = j by omega]; exact HX.out, HB2.out⟩
                case measure => simp [intOf]; omega
            · have HX := Lib.hid (show Utf.nw (Utf.pad (bl s) j 128) ≠ j ∧ Utf.nw (Utf.pad (bl s) j 191) ≠ j from ⟨e1, e2⟩)
              clear e1 e2
              go_wp2
              go_roundw
              case rel =>
                exact ⟨j + 1, by omega, by omega, by go_num, fun m h1 h2 => by
                  rcases Nat.lt_or_ge m j with h | h
                  · exact HN.out m h1 h
                  · rw [show m = j by omega]; exact HX.out, HB2.out⟩
              case measure => simp [intOf]; omega
    · have hk4' : ¬ (k : Int) ≤ 4 := by omega
      have hr : r = false := by
        rw [← HR.out]
        cases hf : Utf.full (bl s) with
        | true => rfl
        | false =>
          exfalso
          obtain ⟨n, h1, h2, h3⟩ := HF.out hf
          rw [HL.out] at h1
          have := HN.out n h1 (by omega)
          rcases h3 with h | h
          · exact this.1 h
          · exact this.2 h
      have HR2 := Lib.hid hr
      clear hr
      go_wp2
      go_ret
      exact ⟨ret_bool HR2.out.symm, HB.out⟩
end Go.Proofs.YtpmfalcmlkcafaaDoor
