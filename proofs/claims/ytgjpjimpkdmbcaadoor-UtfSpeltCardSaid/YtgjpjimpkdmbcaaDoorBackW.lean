/- UtfBack's and UtfShort's walks. -/
import Derived.Test.YtgjpjimpkdmbcaaDoorRunes
import Derived.Test.YtgjpjimpkdmbcaaDoorTidy
namespace Go.Proofs.YtgjpjimpkdmbcaaDoor
open Go.RowKit
set_option linter.unusedVariables false

theorem clip_run (K : Int) (hK : 0 ≤ K) (s0 : ByteArray) (w : World) : (Instr.slice 9 (.string s0) none (some (.int .i64 (min (s0.size : Int) K))) none).run Tryd.prog w = .ok (.string (clip K s0)) w := by
  rw [run_slice_string_to_if w 9 s0 .i64 _ Tryd.underlying9, if_pos (by omega)]
  rfl
theorem tidy_len (l : List Nat) : (Utf.tidy l).length ≤ 6 * l.length + 2 := by
  unfold Utf.tidy
  have := escs_len l
  simp; omega
set_option maxHeartbeats 4000000 in
set_option maxRecDepth 100000 in
theorem utfBack (v : Value) (l : List Int) (m0 : ByteArray) (w : World) (hl : RdI w w.heap.size v l) (hm : m0.size ≤ maxLen) (T : Tab w) :
    Calls Tryd.prog 5 #[v, .string m0] w fun e w' => e = .returned (.bool true) ∧ Below w.heap.size w w' := by
  have hmm := hm
  unfold maxLen at hmm
  have HT := Lib.hid T
  have HL := Lib.hid hl
  have hsl := fun w => clip_run 100 (by omega) m0 w
  have hc := clip_size 100 m0 (by omega)
  have hcm := clip_max 100 m0 (by omega)
  have hbt := textB_byte l
  have htl := textB_len l
  have hrs := runes_rune l
  have hun := Utf.unq_tidy (runes l) (bl (clip 100 m0)) hrs (bl_byte _)
  have hvl : Utf.vld (textB l) = true := Utf.vld_of _ hrs
  have htd := tidy_len (textB l)
  have htb := Utf.tidy_byte (textB l) hbt
  change Utf.unq (Utf.tidy (textB l) ++ bl (clip 100 m0)) = (textB l, (Utf.tidy (textB l)).length, 0) at hun
  generalize clip 100 m0 = m at *
  have hb1 := bl_str _ hbt
  have hb2 := bl_str _ htb
  have hs1 := str_size (textB l)
  have hs2 := str_size (Utf.tidy (textB l))
  have hbl : bl (str (Utf.tidy (textB l)) ++ m) = Utf.tidy (textB l) ++ bl m := by rw [bl_append, hb2]
  have hno := no_over (str (Utf.tidy (textB l))) m (by rw [hs2]; omega)
  have CS : ∀ w', Tab w' → Calls Tryd.prog 25 #[.string (str (Utf.tidy (textB l)) ++ m), .string (str (textB l)), .int .i64 (str (Utf.tidy (textB l))).size] w' fun e w2 => e = .returned (.bool true) ∧ Below w'.heap.size w' w2 := by
    intro w' T'
    exact says_true _ _ _ w' T' (by rw [← bl_length, hbl, List.length_append, bl_length]; omega) (Utf.tidy (textB l)).length (by rw [hs2]) (by rw [hbl, hb1]; exact hun)
  have CQ : ∀ w', Tab w' → Calls Tryd.prog 20 #[.string (str (textB l))] w' fun e w2 => e = .returned (.tuple #[.string (str (Utf.tidy (textB l))), .int .i64 0]) ∧ Below w'.heap.size w' w2 := by
    intro w' T'
    have := quote_yes (str (textB l)) w' T' (by rw [hs1]; omega) (by rw [hb1]; exact hvl)
    rwa [hb1] at this
  have CT : ∀ w', RdI w' w'.heap.size v l → Calls Tryd.prog 24 #[v] w' fun e w2 => e = .returned (.string (str (textB l))) ∧ w' = w2 := fun w' h => text v l w' h
  generalize str (Utf.tidy (textB l)) = q at *
  generalize str (textB l) = t at *
  have HCS := Lib.hid CS
  have HCQ := Lib.hid CQ
  have HCT := Lib.hid CT
  clear CS CQ CT hun hvl htd htb hbt hrs hb1 hb2 hs1 hs2 hbl T hl htl
  go_enter Tryd.func5, Tryd.ntmps5
  go_wp2_with fail
  ((with_reducible refine (works w HT.out).mono ?_); rintro x w1 ⟨rfl, b1⟩)
  have HL1 := Lib.hid (show RdI w1 w1.heap.size v l from by
    obtain ⟨a, c, e1, e2, e3, e4, e5⟩ := HL.out.below b1
    exact ⟨a, c, e1, e2, e3, e4, fun hp => by obtain ⟨b, off, f1, f2, f3⟩ := e5 hp; exact ⟨b, off, f1, Nat.lt_of_lt_of_le f2 b1.size, f3⟩⟩)
  go_wp2_with fail
  ((with_reducible refine (HCT.out w1 HL1.out).mono ?_); rintro x w' ⟨rfl, rfl⟩)
  go_wp2_with fail
  ((with_reducible refine (HCQ.out w1 (HT.out.later b1)).mono ?_); rintro x w2 ⟨rfl, b2⟩)
  go_wp2_with fail
  ((with_reducible refine (HCS.out w2 (HT.out.later (up b1 b2))).mono ?_); rintro x w3 ⟨rfl, b3⟩)
  have B3 := Lib.hid (up (up b1 b2) b3)
  clear b1 b2 b3
  go_wp2
  go_ret
  exact ⟨rfl, B3.out⟩
end Go.Proofs.YtgjpjimpkdmbcaaDoor
