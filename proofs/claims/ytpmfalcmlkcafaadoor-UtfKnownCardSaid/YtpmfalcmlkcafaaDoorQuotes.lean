/- UtfQuotes' walk. -/
import Derived.Test.YtpmfalcmlkcafaaDoorRunq
import Derived.Test.YtpmfalcmlkcafaaDoorRunes
namespace Go.Proofs.YtpmfalcmlkcafaaDoor
open Go.RowKit
set_option linter.unusedVariables false

/-- Both Quotes answer the same. -/
theorem quotes (s : ByteArray) (hm : s.size ≤ 1000000) : ∃ (u : ByteArray) (x : Int),
    (∀ w, Tab w → Calls Tryd.prog 5 #[.string s] w fun e w' => e = .returned (.tuple #[.string u, .int .i64 x]) ∧ Below w.heap.size w w') ∧
    (∀ w, Calls Tryd.prog 6 #[.string s] w fun e w' => e = .returned (.tuple #[.string u, .int .i64 x]) ∧ Below w.heap.size w w') := by
  have hmm : s.size ≤ maxLen := by unfold maxLen; omega
  cases h : Utf.vld (bl s) with
  | true => exact ⟨_, _, fun w T => quote_yes s w T hm h, fun w => rquote_yes s w hm h⟩
  | false => exact ⟨_, _, fun w T => quote_no s w T hmm h, fun w => rquote_no s w hmm h⟩
/-- Both Unquotes answer the same. -/
theorem unquotes (s : ByteArray) (hm : s.size ≤ 1000000) : ∃ (u : ByteArray) (n x : Int),
    (∀ w, Tab w → Calls Tryd.prog 7 #[.string s] w fun e w' => e = .returned (.tuple #[.string u, .int .i64 n, .int .i64 x]) ∧ Below w.heap.size w w') ∧
    (∀ w, Calls Tryd.prog 8 #[.string s] w fun e w' => e = .returned (.tuple #[.string u, .int .i64 n, .int .i64 x]) ∧ Below w.heap.size w w') := by
  obtain ⟨⟨t, n, e⟩, hp⟩ : ∃ p, Utf.unq (bl s) = p := ⟨_, rfl⟩
  exact ⟨str t, n, e, fun w T => unquote s w T hm t n e hp, fun w => runquote s w hm t n e hp⟩
set_option maxHeartbeats 4000000 in
set_option maxRecDepth 100000 in
theorem utfQuotes (s0 t0 : ByteArray) (w : World) (hs : s0.size ≤ maxLen) (ht : t0.size ≤ maxLen) (T : Tab w) :
    Calls Tryd.prog 3 #[.string s0, .string t0] w fun e w' => e = .returned (.bool true) ∧ Below w.heap.size w w' := by
  have hsm := clip_size 400 s0 (by omega)
  have htm := clip_size 400 t0 (by omega)
  have hm := hs
  have hm2 := ht
  unfold maxLen at hm hm2
  have HT := Lib.hid T
  obtain ⟨s, hse⟩ : ∃ s, clip 400 s0 = s := ⟨_, rfl⟩
  obtain ⟨t, hte⟩ : ∃ t, clip 400 t0 = t := ⟨_, rfl⟩
  rw [hse] at hsm
  rw [hte] at htm
  unfold clip at hse hte
  have hsl : ∀ w, (Instr.slice 9 (.string s0) none (some (.int .i64 (min (s0.size : Int) 400))) none).run Tryd.prog w = .ok (.string s) w := fun w => by
    rw [run_slice_string_to_if w 9 s0 .i64 _ Tryd.underlying9, if_pos (by omega), hse]
  have htl : ∀ w, (Instr.slice 9 (.string t0) none (some (.int .i64 (min (t0.size : Int) 400))) none).run Tryd.prog w = .ok (.string t) w := fun w => by
    rw [run_slice_string_to_if w 9 t0 .i64 _ Tryd.underlying9, if_pos (by omega), hte]
  obtain ⟨qu, qx, Q1, Q2⟩ := quotes s (by omega)
  obtain ⟨uu, un, ux, U1, U2⟩ := unquotes t (by omega)
  clear hse hte T hsm htm hs ht
  go_enter Tryd.func3, Tryd.ntmps3
  go_wp2_with fail
  go_region
  have B0 := Lib.hid (Below.drew (Below.refl w.heap.size w))
  have T0 := Lib.hid (HT.out.later B0.out)
  generalize w.drew = w0 at *
  go_wp2_with fail
  ((with_reducible refine (Q1 _ T0.out).mono ?_); rintro x w1 ⟨rfl, b1⟩)
  go_wp2_with fail
  ((with_reducible refine (Q2 _).mono ?_); rintro x w2 ⟨rfl, b2⟩)
  have B2 := Lib.hid (up (up B0.out (up b1 b2)) (Below.refl _ _))
  have T2 := Lib.hid (HT.out.later B2.out)
  clear b1 b2
  go_wp2_with fail
  ((with_reducible refine (U1 _ T2.out).mono ?_); rintro x w3 ⟨rfl, b3⟩)
  go_wp2_with fail
  ((with_reducible refine (U2 _).mono ?_); rintro x w4 ⟨rfl, b4⟩)
  have B4 := Lib.hid (up B2.out (up b3 b4))
  have T4 := Lib.hid (HT.out.later B4.out)
  clear b3 b4
  go_wp2_with fail
  ((with_reducible refine (works _ T4.out).mono ?_); rintro x w5 ⟨rfl, b5⟩)
  have B5 := Lib.hid (up B4.out b5)
  clear b5
  go_wp2
  go_ret
  exact ⟨rfl, B5.out⟩
end Go.Proofs.YtpmfalcmlkcafaaDoor
