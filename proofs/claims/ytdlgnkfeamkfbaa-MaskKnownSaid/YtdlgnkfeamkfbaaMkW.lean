/- The chapter's examples ('works') come out as they should. -/
import Derived.Test.YtdlgnkfeamkfbaaMkT
namespace Go.Proofs.Ytdlgnkfeamkfbaa
open Go.RowKit
set_option linter.unusedVariables false
set_option maxRecDepth 100000

set_option maxHeartbeats 1000000 in
theorem reads (v : Value) (b : List Nat) (n : Int) (wv : Value) (want : List Bool) (k : Int) (e : Nat) (w : World) (hb : Rd w w.heap.size v b) (hw : RdB w w.heap.size wv want) (h : Mk.un b n = (want, k, e)) :
    Calls Try.prog 26 #[v, .int .i64 n, wv, .int .i64 k, .int .i64 (e : Nat)] w fun r w' => r = .returned (.bool true) ∧ Below w.heap.size w w' := by
  have HU := Lib.hid (unpack v b n w hb)
  rw [h] at HU
  have HW := Lib.hid hw
  clear hb hw h
  go_enter Try.func26, Try.ntmps26
  go_wp2_with fail
  refine HU.out.mono ?_
  rintro r w1 ⟨u, rfl, ho, hb1⟩
  have HB := Lib.hid hb1
  have HS := Lib.hid (same u wv want want w1 (RdB.of ho) (Gn.Rd.later HW.out hb1) true (by simp))
  clear ho hb1
  go_wp2_with fail
  refine HS.out.mono ?_
  rintro r w2 ⟨rfl, b2⟩
  go_wp2
  go_ret
  exact ⟨rfl, HB.out.trans (b2.mono HB.out.size)⟩
theorem rdB_lit (w : World) (l : List Bool) (cs : Array Value) (n : Nat) (hcs : cs = (Gn.cells eb l).toArray) (hn : n = l.length) (hm : l.length ≤ 1000) :
    RdB (w.alloc (.cells cs 4)) (w.alloc (.cells cs 4)).heap.size (.slice (some ⟨w.heap.size, 0, none⟩) n n) l :=
  RdB.of (Gn.Own.lit (T := 4) ebL w 0 l cs n n hcs hn rfl (by simp only [maxLen]; omega) (Nat.zero_le _))
theorem up_alloc2 {w w1 : World} (h : Below w.heap.size w w1) (o : Obj) : Below w.heap.size w (w1.alloc o) := h.alloc h.size o
theorem up_box2 {w w1 w2 : World} (h : Below w.heap.size w w1) (h2 : Below w1.heap.size w1 w2) (o : Obj) : Below w.heap.size w (w2.alloc o) := up_alloc2 (up h h2) o
theorem Own.form0 {w : World} {base : Nat} {v : Value} (h : Own w base v []) : ∃ a c, v = .slice a 0 c := by
  obtain ⟨⟨h0, h1⟩, hb⟩ := h
  rcases h1 with ⟨rfl, _⟩ | ⟨g, cap, cur, rfl, _⟩
  · exact ⟨none, 0, rfl⟩
  · exact ⟨_, _, rfl⟩
theorem un1 : Mk.un [9, 255] 4 = ([true, false, false, true], 1, 0) := by decide +kernel
theorem un2 : Mk.un [9] 3 = ([], 0, 140) := by decide +kernel
theorem un3 : Mk.un [9] 9 = ([], 0, 3) := by decide +kernel
theorem un4 : Mk.un [9] (-1) = ([], 0, 6) := by decide +kernel
theorem un5 : Mk.un [] 0 = ([], 0, 0) := by decide +kernel
set_option maxHeartbeats 4000000 in
theorem works (w : World) : Calls Try.prog 19 #[] w fun e w' => e = .returned (.bool true) ∧ Below w.heap.size w w' := by
  have F1 := Lib.hid (rdB_lit w [true, false, false, true] #[.bool true, .bool false, .bool false, .bool true] 4 rfl rfl (by simp))
  have b1 := up_new w (.cells #[.bool true, .bool false, .bool false, .bool true] 4)
  obtain ⟨w1, hw1⟩ : ∃ x, w.alloc (.cells #[.bool true, .bool false, .bool false, .bool true] 4) = x := ⟨_, rfl⟩
  rw [hw1] at F1 b1
  have N1 := Lib.hid (rdB_lit w1 [true, true, true, true, true, true, true, true, false] #[.bool true, .bool true, .bool true, .bool true, .bool true, .bool true, .bool true, .bool true, .bool false] 9 rfl rfl (by simp))
  have b2' := up_new w1 (.cells #[.bool true, .bool true, .bool true, .bool true, .bool true, .bool true, .bool true, .bool true, .bool false] 4)
  obtain ⟨w2, hw2⟩ : ∃ x, w1.alloc (.cells #[.bool true, .bool true, .bool true, .bool true, .bool true, .bool true, .bool true, .bool true, .bool false] 4) = x := ⟨_, rfl⟩
  rw [hw2] at N1 b2'
  have F2 := Lib.hid (Gn.Rd.later F1.out b2')
  have B2 := Lib.hid (up b1 b2')
  clear F1 b1 b2'
  obtain ⟨f, hf⟩ : ∃ x, (Value.slice (some ⟨w.heap.size, 0, none⟩) 4 4) = x := ⟨_, rfl⟩
  obtain ⟨n, hn⟩ : ∃ x, (Value.slice (some ⟨w1.heap.size, 0, none⟩) 9 9) = x := ⟨_, rfl⟩
  rw [hf] at F2
  rw [hn] at N1
  go_enter Try.func19, Try.ntmps19
  go_wp2_with fail
  clear hf hn hw1 hw2
  refine (pack f _ _ F2.out (by decide)).mono ?_
  rintro e w3 ⟨r3, rfl, o3, b3⟩
  have O3 := Lib.hid (o3.rd.later (Nat.le_refl _) (up_new w3 (.cells #[.int .u8 9] 5)))
  have B3 := Lib.hid (up_box2 B2.out b3 (.cells #[.int .u8 9] 5))
  have N3 := Lib.hid (Gn.Rd.later N1.out (up_alloc2 b3 (.cells #[.int .u8 9] 5)))
  have F3 := Lib.hid (Gn.Rd.later F2.out (up_alloc2 b3 (.cells #[.int .u8 9] 5)))
  have R3 := Lib.hid (rd_lit w3 [9] #[.int .u8 9] 1 rfl rfl (by simp) (by simp))
  clear o3 b3 F2 N1 B2
  go_wp2_with fail
  refine (eq_yes _ _ _ _ _ O3.out R3.out (by decide +kernel)).mono ?_
  rintro e w' ⟨rfl, rfl⟩
  clear O3 R3
  go_wp2_with fail
  refine (pack n _ _ N3.out (by decide)).mono ?_
  rintro e w4 ⟨r4, rfl, o4, b4⟩
  have O4 := Lib.hid (o4.rd.later (Nat.le_refl _) (up_new w4 (.cells #[.int .u8 255, .int .u8 0] 5)))
  have B4 := Lib.hid (up_box2 B3.out b4 (.cells #[.int .u8 255, .int .u8 0] 5))
  have N4 := Lib.hid (Gn.Rd.later N3.out (up_alloc2 b4 (.cells #[.int .u8 255, .int .u8 0] 5)))
  have F4 := Lib.hid (Gn.Rd.later F3.out (up_alloc2 b4 (.cells #[.int .u8 255, .int .u8 0] 5)))
  have R4 := Lib.hid (rd_lit w4 [255, 0] #[.int .u8 255, .int .u8 0] 2 rfl rfl (by simp) (by simp))
  clear o4 b4 F3 N3 B3
  go_wp2_with fail
  refine (eq_yes _ _ _ _ _ O4.out R4.out (by decide +kernel)).mono ?_
  rintro e w' ⟨rfl, rfl⟩
  clear O4 R4
  go_wp2_with fail
  refine (pack (.slice none 0 0) [] _ (Gn.Rd.nil _ _) (by decide)).mono ?_
  rintro e w5 ⟨r5, rfl, o5, b5⟩
  have hl5 := o5.form0
  obtain ⟨a5, c5, rfl⟩ := hl5
  have B5 := Lib.hid (up B4.out b5)
  have N5 := Lib.hid (Gn.Rd.later N4.out b5)
  have F5 := Lib.hid (Gn.Rd.later F4.out b5)
  clear o5 b5 F4 N4 B4
  go_wp2_with fail
  refine (count n _ _ N5.out 8 (by decide +kernel)).mono ?_
  rintro e w' ⟨rfl, rfl⟩
  have R6 := Lib.hid (rd_lit w5 [9, 255] #[.int .u8 9, .int .u8 255] 2 rfl rfl (by simp) (by simp))
  have b6 := up_new w5 (.cells #[.int .u8 9, .int .u8 255] 5)
  have B6 := Lib.hid (up B5.out b6)
  have F6 := Lib.hid (Gn.Rd.later F5.out b6)
  clear N5 F5 B5 b6
  go_wp2_with fail
  refine (reads _ _ 4 f _ 1 0 _ R6.out F6.out un1).mono ?_
  rintro e w7 ⟨rfl, b7⟩
  have R7 := Lib.hid (rd_lit w7 [9] #[.int .u8 9] 1 rfl rfl (by simp) (by simp))
  have B7 := Lib.hid (up_box2 B6.out b7 (.cells #[.int .u8 9] 5))
  clear R6 F6 B6 b7
  go_wp2_with fail
  refine (reads _ _ 3 _ [] 0 140 _ R7.out (Gn.Rd.nil _ _) un2).mono ?_
  rintro e w8 ⟨rfl, b8⟩
  have R8 := Lib.hid (rd_lit w8 [9] #[.int .u8 9] 1 rfl rfl (by simp) (by simp))
  have B8 := Lib.hid (up_box2 B7.out b8 (.cells #[.int .u8 9] 5))
  clear R7 B7 b8
  go_wp2_with fail
  refine (reads _ _ 9 _ [] 0 3 _ R8.out (Gn.Rd.nil _ _) un3).mono ?_
  rintro e w9 ⟨rfl, b9⟩
  have R9 := Lib.hid (rd_lit w9 [9] #[.int .u8 9] 1 rfl rfl (by simp) (by simp))
  have B9 := Lib.hid (up_box2 B8.out b9 (.cells #[.int .u8 9] 5))
  clear R8 B8 b9
  go_wp2_with fail
  refine (reads _ _ (-1) _ [] 0 6 _ R9.out (Gn.Rd.nil _ _) un4).mono ?_
  rintro e w10 ⟨rfl, b10⟩
  have B10 := Lib.hid (up B9.out b10)
  clear R9 B9 b10
  go_wp2_with fail
  refine (reads _ [] 0 _ [] 0 0 _ (Rd.nil _ _) (Gn.Rd.nil _ _) un5).mono ?_
  rintro e w11 ⟨rfl, b11⟩
  have B11 := Lib.hid (up B10.out b11)
  clear B10 b11
  go_wp2_with fail
  refine (size 0 _ 0 (by decide +kernel)).mono ?_
  rintro e w' ⟨rfl, rfl⟩
  go_wp2_with fail
  refine (size 8 _ 1 (by decide +kernel)).mono ?_
  rintro e w' ⟨rfl, rfl⟩
  go_wp2_with fail
  refine (size 9 _ 2 (by decide +kernel)).mono ?_
  rintro e w' ⟨rfl, rfl⟩
  go_wp2_with fail
  refine (size 1048577 _ 0 (by decide +kernel)).mono ?_
  rintro e w' ⟨rfl, rfl⟩
  go_wp2
  go_ret
  exact ⟨rfl, B11.out⟩
end Go.Proofs.Ytdlgnkfeamkfbaa
