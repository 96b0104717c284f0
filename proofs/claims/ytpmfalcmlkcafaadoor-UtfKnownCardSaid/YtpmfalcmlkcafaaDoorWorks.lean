/- The chapter's examples ('works') come out as they should, in whatever memory. -/
import Derived.Test.YtpmfalcmlkcafaaDoorPart
namespace Go.Proofs.YtpmfalcmlkcafaaDoor
open Go.RowKit
set_option linter.unusedVariables false

theorem quote_is (s : ByteArray) (w : World) (T : Tab w) (hm : s.size ≤ 1000000) (h : Utf.vld (bl s) = true) (q : ByteArray) (hq : str (Utf.tidy (bl s)) = q) :
    Calls Tryd.prog 5 #[.string s] w fun e w' => e = .returned (.tuple #[.string q, .int .i64 0]) ∧ Below w.heap.size w w' := by
  rw [← hq]; exact quote_yes s w T hm h
theorem put_is (r : Nat) (x : Int) (hx : x = (r : Nat)) (w : World) (h : Utf.isr r) (q : ByteArray) (hq : str (Utf.enc r) = q) :
    Calls Tryd.prog 11 #[.int .i32 x] w fun e w' => e = .returned (.tuple #[.string q, .bool true]) ∧ w = w' := by
  subst hx; rw [← hq]; exact put_yes r w h
set_option maxHeartbeats 1000000 in
theorem lnext_yes (s : ByteArray) (r n : Int) (w : World) (T : Tab w) (h : Utf.nw (bl s) ≠ 0) (hr : r = (Utf.nr (bl s) : Nat)) (hn : n = (Utf.nw (bl s) : Nat)) :
    Calls Tryd.prog 23 #[.string s, .int .i32 r, .int .i64 n] w fun e w' => e = .returned (.bool true) ∧ Below w.heap.size w w' := by
  have C := next_yes s w T h
  rw [← hr, ← hn] at C
  have hp : (0 : Int) < n := by omega
  clear h hr hn
  go_enter Tryd.func23, Tryd.ntmps23
  go_wp2_with fail
  ((with_reducible refine C.mono ?_); rintro x w2 ⟨rfl, hb⟩)
  go_wp2
  go_ret
  exact ⟨rfl, hb⟩
set_option maxHeartbeats 1000000 in
theorem lnext_no (s : ByteArray) (w : World) (T : Tab w) (h : Utf.nw (bl s) = 0) :
    Calls Tryd.prog 23 #[.string s, .int .i32 0, .int .i64 0] w fun e w' => e = .returned (.bool true) ∧ Below w.heap.size w w' := by
  have C := next_no s w T h
  clear h
  go_enter Tryd.func23, Tryd.ntmps23
  go_wp2_with fail
  ((with_reducible refine C.mono ?_); rintro x w2 ⟨rfl, hb⟩)
  go_wp2
  go_ret
  exact ⟨rfl, hb⟩
set_option maxHeartbeats 1000000 in
theorem says_true (s want : ByteArray) (n : Int) (w : World) (T : Tab w) (hm : s.size ≤ 1000000) (k : Nat) (hn : n = (k : Nat)) (h : Utf.unq (bl s) = (bl want, k, 0)) :
    Calls Tryd.prog 24 #[.string s, .string want, .int .i64 n] w fun e w' => e = .returned (.bool true) ∧ Below w.heap.size w w' := by
  have C := unquote s w T hm _ _ _ h
  unfold quad at C
  rw [str_bl] at C
  subst hn
  clear h
  go_enter Tryd.func24, Tryd.ntmps24
  go_wp2_with fail
  ((with_reducible refine C.mono ?_); rintro x w2 ⟨rfl, hb⟩)
  go_wp2
  go_ret
  exact ⟨rfl, hb⟩
set_option maxHeartbeats 1000000 in
theorem fails_true (s : ByteArray) (x : Int) (w : World) (T : Tab w) (hm : s.size ≤ 1000000) (k : Nat) (hx : x = (k : Nat)) (h : Utf.unq (bl s) = ([], 0, k)) :
    Calls Tryd.prog 25 #[.string s, .int .i64 x] w fun e w' => e = .returned (.bool true) ∧ Below w.heap.size w w' := by
  have C := unquote s w T hm _ _ _ h
  unfold quad at C
  rw [str_nil] at C
  subst hx
  clear h
  go_enter Tryd.func25, Tryd.ntmps25
  go_wp2_with fail
  ((with_reducible refine C.mono ?_); rintro x w2 ⟨rfl, hb⟩)
  go_wp2
  go_ret
  exact ⟨rfl, hb⟩
set_option maxHeartbeats 4000000 in
set_option maxRecDepth 100000 in
theorem works (w : World) (T : Tab w) : Calls Tryd.prog 9 #[] w fun e w' => e = .returned (.bool true) ∧ Below w.heap.size w w' := by
  have HT := Lib.hid T
  clear T
  go_enter Tryd.func9, Tryd.ntmps9
  go_wp2_with fail
  ((with_reducible refine (put_is 8364 8364 rfl w (by unfold Utf.isr; omega) ⟨#[226, 130, 172]⟩ (by decide +kernel)).mono ?_); rintro x w' ⟨rfl, rfl⟩)
  go_wp2_with fail
  ((with_reducible refine (put_no 55296 w (by unfold isR Utf.isr; omega)).mono ?_); rintro x w' ⟨rfl, rfl⟩)
  go_wp2_with fail
  ((with_reducible refine (put_no (-1) w (by unfold isR Utf.isr; omega)).mono ?_); rintro x w' ⟨rfl, rfl⟩)
  go_wp2_with fail
  ((with_reducible refine (quote_is ⟨#[97, 34, 92, 10, 1, 195, 164]⟩ w HT.out (by decide) (by decide +kernel) ⟨#[34, 97, 92, 34, 92, 92, 92, 110, 92, 117, 48, 48, 48, 49, 195, 164, 34]⟩ (by decide +kernel)).mono ?_); rintro x w1 ⟨rfl, b1⟩)
  have H1 := Lib.hid (HT.out.later b1)
  go_wp2_with fail
  ((with_reducible refine (lnext_yes ⟨#[195, 164, 65]⟩ 228 2 w1 H1.out (by decide +kernel) (by decide +kernel) (by decide +kernel)).mono ?_); rintro x w2 ⟨rfl, b2⟩)
  have H2 := Lib.hid (H1.out.later b2)
  go_wp2_with fail
  ((with_reducible refine (lnext_no ⟨#[195]⟩ w2 H2.out (by decide +kernel)).mono ?_); rintro x w3 ⟨rfl, b3⟩)
  have H3 := Lib.hid (H2.out.later b3)
  go_wp2_with fail
  ((with_reducible refine (lnext_no ⟨#[192, 128]⟩ w3 H3.out (by decide +kernel)).mono ?_); rintro x w4 ⟨rfl, b4⟩)
  have H4 := Lib.hid (H3.out.later b4)
  go_wp2_with fail
  ((with_reducible refine (lnext_no ⟨#[237, 160, 128]⟩ w4 H4.out (by decide +kernel)).mono ?_); rintro x w5 ⟨rfl, b5⟩)
  have H5 := Lib.hid (H4.out.later b5)
  have B5 := Lib.hid (up (up (up (up b1 b2) b3) b4) b5)
  clear b1 b2 b3 b4 b5
  go_wp2_with fail
  ((with_reducible refine (says_true ⟨#[34, 92, 117, 48, 48, 52, 49, 92, 117, 100, 56, 51, 100, 92, 117, 100, 101, 48, 48, 92, 47, 34, 120]⟩ ⟨#[65, 240, 159, 152, 128, 47]⟩ 22 w5 H5.out (by decide) 22 rfl (by decide +kernel)).mono ?_); rintro x w6 ⟨rfl, b6⟩)
  have H6 := Lib.hid (H5.out.later b6)
  go_wp2_with fail
  ((with_reducible refine (fails_true ⟨#[34, 97]⟩ 3 w6 H6.out (by decide) 3 rfl (by decide +kernel)).mono ?_); rintro x w7 ⟨rfl, b7⟩)
  have H7 := Lib.hid (H6.out.later b7)
  go_wp2_with fail
  ((with_reducible refine (fails_true ⟨#[34, 92, 120, 34]⟩ 41 w7 H7.out (by decide) 41 rfl (by decide +kernel)).mono ?_); rintro x w8 ⟨rfl, b8⟩)
  have H8 := Lib.hid (H7.out.later b8)
  go_wp2_with fail
  ((with_reducible refine (fails_true ⟨#[34, 92, 117, 100, 101, 48, 48, 34]⟩ 41 w8 H8.out (by decide) 41 rfl (by decide +kernel)).mono ?_); rintro x w9 ⟨rfl, b9⟩)
  have H9 := Lib.hid (H8.out.later b9)
  go_wp2_with fail
  ((with_reducible refine (fails_true ⟨#[34, 92, 117, 100, 56, 51, 100, 120, 34]⟩ 41 w9 H9.out (by decide) 41 rfl (by decide +kernel)).mono ?_); rintro x w10 ⟨rfl, b10⟩)
  have H10 := Lib.hid (H9.out.later b10)
  have B10 := Lib.hid (up (up (up (up (up B5.out b6) b7) b8) b9) b10)
  clear b6 b7 b8 b9 b10
  go_wp2_with fail
  ((with_reducible refine (fails_true ⟨#[34, 92, 117, 48, 48]⟩ 3 w10 H10.out (by decide) 3 rfl (by decide +kernel)).mono ?_); rintro x w11 ⟨rfl, b11⟩)
  have H11 := Lib.hid (H10.out.later b11)
  go_wp2_with fail
  ((with_reducible refine (fails_true ⟨#[120]⟩ 41 w11 H11.out (by decide) 41 rfl (by decide +kernel)).mono ?_); rintro x w12 ⟨rfl, b12⟩)
  have H12 := Lib.hid (H11.out.later b12)
  go_wp2_with fail
  ((with_reducible refine (fails_true ⟨#[34, 255, 34]⟩ 40 w12 H12.out (by decide) 40 rfl (by decide +kernel)).mono ?_); rintro x w13 ⟨rfl, b13⟩)
  have H13 := Lib.hid (H12.out.later b13)
  go_wp2_with fail
  ((with_reducible refine (fails_true ⟨#[]⟩ 3 w13 H13.out (by decide) 3 rfl (by decide +kernel)).mono ?_); rintro x w14 ⟨rfl, b14⟩)
  have H14 := Lib.hid (H13.out.later b14)
  go_wp2_with fail
  ((with_reducible refine (fails_true ⟨#[34, 9, 34]⟩ 41 w14 H14.out (by decide) 41 rfl (by decide +kernel)).mono ?_); rintro x w15 ⟨rfl, b15⟩)
  have B15 := Lib.hid (up (up (up (up (up B10.out b11) b12) b13) b14) b15)
  clear b11 b12 b13 b14 b15
  go_wp2
  go_ret
  exact ⟨rfl, B15.out⟩
end Go.Proofs.YtpmfalcmlkcafaaDoor
