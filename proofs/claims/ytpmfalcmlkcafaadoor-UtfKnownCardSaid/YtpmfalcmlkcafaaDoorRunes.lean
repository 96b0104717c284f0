/- UtfRunes' walk. -/
import Derived.Test.YtpmfalcmlkcafaaDoorText
namespace Go.Proofs.YtpmfalcmlkcafaaDoor
open Go.RowKit
set_option linter.unusedVariables false

/-- A text that is cut. -/
def clip (K : Int) (s : ByteArray) : ByteArray := s.extract 0 (min (s.size : Int) K).toNat
theorem clip_size (K : Int) (s : ByteArray) (h : K ≤ 1000) : (clip K s).size ≤ 1000 := by
  unfold clip
  rw [ByteArray.size_extract]
  omega
theorem clip_max (K : Int) (s : ByteArray) (h : K ≤ 1000) : (clip K s).size ≤ maxLen := by
  have := clip_size K s h
  unfold maxLen; omega
set_option maxHeartbeats 4000000 in
set_option maxRecDepth 100000 in
theorem utfRunes (s0 : ByteArray) (r : Int) (w : World) (hs : s0.size ≤ maxLen) (r0 : -2147483648 ≤ r) (r1 : r ≤ 2147483647) (T : Tab w) :
    Calls Tryd.prog 10 #[.string s0, .int .i32 r] w fun e w' => e = .returned (.bool true) ∧ Below w.heap.size w w' := by
  have hsm := clip_max 400 s0 (by omega)
  have hm := hs
  unfold maxLen at hm
  have HT := Lib.hid T
  obtain ⟨s, hse⟩ : ∃ s, clip 400 s0 = s := ⟨_, rfl⟩
  unfold clip at hse
  have hsl : (Instr.slice 9 (.string s0) none (some (.int .i64 (min (s0.size : Int) 400))) none).run Tryd.prog w = .ok (.string s) w := by
    rw [run_slice_string_to_if w 9 s0 .i64 _ Tryd.underlying9, if_pos (by omega), hse]
  have hsm2 : s.size ≤ maxLen := by rw [← hse]; exact hsm
  have HSE := Lib.hid hse
  clear hse hsm
  by_cases hw : Utf.nw (bl s) = 0
  · by_cases hr : isR r
    · obtain ⟨q, rfl⟩ : ∃ q : Nat, r = q := ⟨r.toNat, by have := hr.1; omega⟩
      have hq := (isR_nat q).1 hr
      have HQ := Lib.hid hq
      have HW := Lib.hid hw
      clear hr hq hw T
      go_enter Tryd.func10, Tryd.ntmps10
      go_wp2_with fail
      ((with_reducible refine (next_no s w HT.out HW.out).mono ?_); rintro x w1 ⟨rfl, b1⟩)
      go_wp2_with fail
      ((with_reducible refine (rnext_no s w1 hsm2 HW.out).mono ?_); rintro x w2 ⟨rfl, b2⟩)
      go_wp2_with fail
      ((with_reducible refine (put_yes q w2 HQ.out).mono ?_); rintro x w' ⟨rfl, rfl⟩)
      go_wp2_with fail
      ((with_reducible refine (rput_yes q w2 HQ.out).mono ?_); rintro x w3 ⟨rfl, b3⟩)
      have B3 := Lib.hid (up (up b1 b2) b3)
      have T3 := Lib.hid (HT.out.later B3.out)
      clear b1 b2 b3
      go_wp2_with fail
      ((with_reducible refine (valid s w3 T3.out hsm2 _ rfl).mono ?_); rintro x w4 ⟨rfl, b4⟩)
      go_wp2_with fail
      ((with_reducible refine (rvalid s w4 hsm2 _ rfl).mono ?_); rintro x w5 ⟨rfl, b5⟩)
      have B5 := Lib.hid (up (up B3.out b4) b5)
      have T5 := Lib.hid (HT.out.later B5.out)
      clear b4 b5
      go_wp2_with fail
      ((with_reducible refine (works w5 T5.out).mono ?_); rintro x w6 ⟨rfl, b6⟩)
      have B6 := Lib.hid (up B5.out b6)
      clear b6
      go_wp2
      go_ret
      exact ⟨rfl, B6.out⟩
    · have HQ := Lib.hid hr
      have HW := Lib.hid hw
      clear hr hw T
      go_enter Tryd.func10, Tryd.ntmps10
      go_wp2_with fail
      ((with_reducible refine (next_no s w HT.out HW.out).mono ?_); rintro x w1 ⟨rfl, b1⟩)
      go_wp2_with fail
      ((with_reducible refine (rnext_no s w1 hsm2 HW.out).mono ?_); rintro x w2 ⟨rfl, b2⟩)
      go_wp2_with fail
      ((with_reducible refine (put_no r w2 HQ.out).mono ?_); rintro x w' ⟨rfl, rfl⟩)
      go_wp2_with fail
      ((with_reducible refine (rput_no r w2 HQ.out r0 r1).mono ?_); rintro x w' ⟨rfl, rfl⟩)
      have B3 := Lib.hid (up b1 b2)
      have T3 := Lib.hid (HT.out.later B3.out)
      clear b1 b2
      go_wp2_with fail
      ((with_reducible refine (valid s w2 T3.out hsm2 _ rfl).mono ?_); rintro x w4 ⟨rfl, b4⟩)
      go_wp2_with fail
      ((with_reducible refine (rvalid s w4 hsm2 _ rfl).mono ?_); rintro x w5 ⟨rfl, b5⟩)
      have B5 := Lib.hid (up (up B3.out b4) b5)
      have T5 := Lib.hid (HT.out.later B5.out)
      clear b4 b5
      go_wp2_with fail
      ((with_reducible refine (works w5 T5.out).mono ?_); rintro x w6 ⟨rfl, b6⟩)
      have B6 := Lib.hid (up B5.out b6)
      clear b6
      go_wp2
      go_ret
      exact ⟨rfl, B6.out⟩
  · by_cases hr : isR r
    · obtain ⟨q, rfl⟩ : ∃ q : Nat, r = q := ⟨r.toNat, by have := hr.1; omega⟩
      have hq := (isR_nat q).1 hr
      have HQ := Lib.hid hq
      have HW := Lib.hid hw
      clear hr hq hw T
      go_enter Tryd.func10, Tryd.ntmps10
      go_wp2_with fail
      ((with_reducible refine (next_yes s w HT.out HW.out).mono ?_); rintro x w1 ⟨rfl, b1⟩)
      go_wp2_with fail
      ((with_reducible refine (rnext_yes s w1 hsm2 HW.out).mono ?_); rintro x w2 ⟨rfl, b2⟩)
      go_wp2_with fail
      ((with_reducible refine (put_yes q w2 HQ.out).mono ?_); rintro x w' ⟨rfl, rfl⟩)
      go_wp2_with fail
      ((with_reducible refine (rput_yes q w2 HQ.out).mono ?_); rintro x w3 ⟨rfl, b3⟩)
      have B3 := Lib.hid (up (up b1 b2) b3)
      have T3 := Lib.hid (HT.out.later B3.out)
      clear b1 b2 b3
      go_wp2_with fail
      ((with_reducible refine (valid s w3 T3.out hsm2 _ rfl).mono ?_); rintro x w4 ⟨rfl, b4⟩)
      go_wp2_with fail
      ((with_reducible refine (rvalid s w4 hsm2 _ rfl).mono ?_); rintro x w5 ⟨rfl, b5⟩)
      have B5 := Lib.hid (up (up B3.out b4) b5)
      have T5 := Lib.hid (HT.out.later B5.out)
      clear b4 b5
      go_wp2_with fail
      ((with_reducible refine (works w5 T5.out).mono ?_); rintro x w6 ⟨rfl, b6⟩)
      have B6 := Lib.hid (up B5.out b6)
      clear b6
      go_wp2
      go_ret
      exact ⟨rfl, B6.out⟩
    · have HQ := Lib.hid hr
      have HW := Lib.hid hw
      clear hr hw T
      go_enter Tryd.func10, Tryd.ntmps10
      go_wp2_with fail
      ((with_reducible refine (next_yes s w HT.out HW.out).mono ?_); rintro x w1 ⟨rfl, b1⟩)
      go_wp2_with fail
      ((with_reducible refine (rnext_yes s w1 hsm2 HW.out).mono ?_); rintro x w2 ⟨rfl, b2⟩)
      go_wp2_with fail
      ((with_reducible refine (put_no r w2 HQ.out).mono ?_); rintro x w' ⟨rfl, rfl⟩)
      go_wp2_with fail
      ((with_reducible refine (rput_no r w2 HQ.out r0 r1).mono ?_); rintro x w' ⟨rfl, rfl⟩)
      have B3 := Lib.hid (up b1 b2)
      have T3 := Lib.hid (HT.out.later B3.out)
      clear b1 b2
      go_wp2_with fail
      ((with_reducible refine (valid s w2 T3.out hsm2 _ rfl).mono ?_); rintro x w4 ⟨rfl, b4⟩)
      go_wp2_with fail
      ((with_reducible refine (rvalid s w4 hsm2 _ rfl).mono ?_); rintro x w5 ⟨rfl, b5⟩)
      have B5 := Lib.hid (up (up B3.out b4) b5)
      have T5 := Lib.hid (HT.out.later B5.out)
      clear b4 b5
      go_wp2_with fail
      ((with_reducible refine (works w5 T5.out).mono ?_); rintro x w6 ⟨rfl, b6⟩)
      have B6 := Lib.hid (up B5.out b6)
      clear b6
      go_wp2
      go_ret
      exact ⟨rfl, B6.out⟩
end Go.Proofs.YtpmfalcmlkcafaaDoor
