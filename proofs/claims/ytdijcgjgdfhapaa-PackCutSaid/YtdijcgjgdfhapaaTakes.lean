/- The next piece of a reader, held against one: plain, and the program's 'takes'. -/
import Derived.Test.YtdijcgjgdfhapaaSize
import Derived.Deep.RegionHeld3
import Derived.Deep.RegionWith
import Derived.IntWalk
namespace Go.Proofs.Ytdijcgjgdfhapaa
open Go.RowKit
set_option linter.unusedVariables false

/-- Is it the next piece; how many bytes are taken; the error. -/
def takeF (k n : Int) (s : ByteArray) (r : List Nat) : Bool × Nat × Nat :=
  if k % 6 = 0 then (decide (((fByte r).1 : Int) = n % 256), (fByte r).2.1, (fByte r).2.2)
  else if k % 6 = 1 then (decide (((Leb.dec r).1 : Int) = n), (Leb.dec r).2.1, (Leb.dec r).2.2)
  else if k % 6 = 2 then (decide (decI r = wrap64 n), (Leb.dec r).2.1, (Leb.dec r).2.2)
  else if k % 6 = 3 then ((str (fText 40 r).1).toList == (clip40 s).toList, (fText 40 r).2.1, (fText 40 r).2.2)
  else if k % 6 = 4 then ((str (fRaw (clip40 s).size r).1).toList == (clip40 s).toList, (fRaw (clip40 s).size r).2.1, (fRaw (clip40 s).size r).2.2)
  else (decide (((fWord r).1 : Int) = n % 4294967296), (fWord r).2.1, (fWord r).2.2)
theorem PR.notNew {R : Nat → Prop} {w : World} {g p : Nat} {l : List Nat} {e : Int} (h : PR w R g l p e) : ¬ R w.heap.size := fun hx => by
  have := h.glt.2.2 _ hx
  omega
/-- A new box, behind a call that touches R alone. -/
theorem box_kept {R : Nat → Prop} {w w1 : World} {o : Obj} {j : Nat} {u : Value} (hn : ¬ R w.heap.size) (h : (w.alloc o).cell? ⟨w.heap.size, j, none⟩ = some u) (ht : Touch R ((w.alloc o).drewN 1) w1) : w1.cell? ⟨w.heap.size, j, none⟩ = some u :=
  (ht.cell (p := ⟨w.heap.size, j, none⟩) (by show w.heap.size < (w.alloc o).heap.size; simp) hn).trans h
set_option maxHeartbeats 1000000 in
set_option maxRecDepth 100000 in
theorem takes0 (R : Nat → Prop) (g p : Nat) (l : List Nat) (k n : Int) (s : ByteArray) (w : World) (hP : PR w R g l p 0) (k0 : -9223372036854775808 ≤ k) (k1 : k ≤ 9223372036854775807) (n0 : 0 ≤ n) (n1 : n ≤ 18446744073709551615) (hs : s.size ≤ 9223372036854775807) (h : k % 6 = 0) :
    Calls Try.prog 33 #[.pointer (some ⟨g, 0, none⟩), .agg #[.int .i64 k, .int .u64 n, .string s]] w (PMove w R g l (p + (takeF k n s (l.drop p)).2.1) ((takeF k n s (l.drop p)).2.2 : Int) (.bool (takeF k n s (l.drop p)).1)) := by
  have hc := clip40_size s
  have hz := wrap64_in n
  have hnew := hP.notNew
  have H := Lib.hid hP
  have HNW := Lib.hid hnew
  clear hP hnew
  have HL := Lib.hid (show takeF k n s (l.drop p) = (decide (((fByte (l.drop p)).1 : Int) = n % 256), (fByte (l.drop p)).2.1, (fByte (l.drop p)).2.2) by unfold takeF; rw [if_pos h])
  have HK := Lib.hid h
  clear h
  have hbx : (w.alloc (.cells #[.int .i64 k, .int .u64 n, .string s] 30)).cell? ⟨w.heap.size, 1, none⟩ = some (.int .u64 n) := by simp
  have HBX := Lib.hid hbx
  clear hbx
  go_enter Try.func33, Try.ntmps33
  go_wp2_with fail
  refine (bring_is k 6 0 _ k0 k1 (by omega) (by omega) HK.out).mono ?_
  rintro x w1 ⟨rfl, rfl⟩
  go_wp2
  go_region_held3 (fun wx => wx.cell? ⟨w.heap.size, 1, none⟩ = some (.int .u64 n)) (first | exact HBX.out | exact hb')
    (first
    | (go_at_call 52; refine (p_byte R g p l _ ((H.out.later (new_below _ _)).drewN 1)).mono ?_; rintro x w1 ⟨rfl, h1, ht1⟩; have hb' : w1.cell? ⟨w.heap.size, 1, none⟩ = some (.int .u64 n) := box_kept HNW.out HBX.out ht1; have H1 := Lib.hid h1; have HT1 := Lib.hid ht1; clear h1 ht1))
  go_wp2
  go_ret
  rw [HL.out]
  exact ⟨rfl, H1.out, (Touch.of_below (S := R) (new_below _ _)).trans (HT1.out.undrewN) (fun k hk => .inl hk)⟩
set_option maxHeartbeats 1000000 in
set_option maxRecDepth 100000 in
theorem takes1 (R : Nat → Prop) (g p : Nat) (l : List Nat) (k n : Int) (s : ByteArray) (w : World) (hP : PR w R g l p 0) (k0 : -9223372036854775808 ≤ k) (k1 : k ≤ 9223372036854775807) (n0 : 0 ≤ n) (n1 : n ≤ 18446744073709551615) (hs : s.size ≤ 9223372036854775807) (h : k % 6 = 1) :
    Calls Try.prog 33 #[.pointer (some ⟨g, 0, none⟩), .agg #[.int .i64 k, .int .u64 n, .string s]] w (PMove w R g l (p + (takeF k n s (l.drop p)).2.1) ((takeF k n s (l.drop p)).2.2 : Int) (.bool (takeF k n s (l.drop p)).1)) := by
  have hc := clip40_size s
  have hz := wrap64_in n
  have hnew := hP.notNew
  have H := Lib.hid hP
  have HNW := Lib.hid hnew
  clear hP hnew
  have HL := Lib.hid (show takeF k n s (l.drop p) = (decide (((Leb.dec (l.drop p)).1 : Int) = n), (Leb.dec (l.drop p)).2.1, (Leb.dec (l.drop p)).2.2) by unfold takeF; rw [if_neg (by omega), if_pos h])
  have HK := Lib.hid h
  clear h
  have hbx : (w.alloc (.cells #[.int .i64 k, .int .u64 n, .string s] 30)).cell? ⟨w.heap.size, 1, none⟩ = some (.int .u64 n) := by simp
  have HBX := Lib.hid hbx
  clear hbx
  go_enter Try.func33, Try.ntmps33
  go_wp2_with fail
  refine (bring_is k 6 1 _ k0 k1 (by omega) (by omega) HK.out).mono ?_
  rintro x w1 ⟨rfl, rfl⟩
  go_wp2
  go_region_held3 (fun wx => wx.cell? ⟨w.heap.size, 1, none⟩ = some (.int .u64 n)) (first | exact HBX.out | exact hb')
    (first
    | (go_at_call 54; refine (p_var R g p l _ ((H.out.later (new_below _ _)).drewN 1)).mono ?_; rintro x w1 ⟨rfl, h1, ht1⟩; have hb' : w1.cell? ⟨w.heap.size, 1, none⟩ = some (.int .u64 n) := box_kept HNW.out HBX.out ht1; have H1 := Lib.hid h1; have HT1 := Lib.hid ht1; clear h1 ht1))
  go_wp2
  go_ret
  rw [HL.out]
  exact ⟨rfl, H1.out, (Touch.of_below (S := R) (new_below _ _)).trans (HT1.out.undrewN) (fun k hk => .inl hk)⟩
set_option maxHeartbeats 1000000 in
set_option maxRecDepth 100000 in
theorem takes2 (R : Nat → Prop) (g p : Nat) (l : List Nat) (k n : Int) (s : ByteArray) (w : World) (hP : PR w R g l p 0) (k0 : -9223372036854775808 ≤ k) (k1 : k ≤ 9223372036854775807) (n0 : 0 ≤ n) (n1 : n ≤ 18446744073709551615) (hs : s.size ≤ 9223372036854775807) (h : k % 6 = 2) :
    Calls Try.prog 33 #[.pointer (some ⟨g, 0, none⟩), .agg #[.int .i64 k, .int .u64 n, .string s]] w (PMove w R g l (p + (takeF k n s (l.drop p)).2.1) ((takeF k n s (l.drop p)).2.2 : Int) (.bool (takeF k n s (l.drop p)).1)) := by
  have hc := clip40_size s
  have hz := wrap64_in n
  have hnew := hP.notNew
  have H := Lib.hid hP
  have HNW := Lib.hid hnew
  clear hP hnew
  have HL := Lib.hid (show takeF k n s (l.drop p) = (decide (decI (l.drop p) = wrap64 n), (Leb.dec (l.drop p)).2.1, (Leb.dec (l.drop p)).2.2) by unfold takeF; rw [if_neg (by omega), if_neg (by omega), if_pos h])
  have HK := Lib.hid h
  clear h
  have hbx : (w.alloc (.cells #[.int .i64 k, .int .u64 n, .string s] 30)).cell? ⟨w.heap.size, 1, none⟩ = some (.int .u64 n) := by simp
  have HBX := Lib.hid hbx
  clear hbx
  go_enter Try.func33, Try.ntmps33
  go_wp2_with fail
  refine (bring_is k 6 2 _ k0 k1 (by omega) (by omega) HK.out).mono ?_
  rintro x w1 ⟨rfl, rfl⟩
  go_wp2
  go_region_held3 (fun wx => wx.cell? ⟨w.heap.size, 1, none⟩ = some (.int .u64 n)) (first | exact HBX.out | exact hb')
    (first
    | (go_at_call 55; refine (p_int R g p l _ ((H.out.later (new_below _ _)).drewN 1)).mono ?_; rintro x w1 ⟨rfl, h1, ht1⟩; have hb' : w1.cell? ⟨w.heap.size, 1, none⟩ = some (.int .u64 n) := box_kept HNW.out HBX.out ht1; have H1 := Lib.hid h1; have HT1 := Lib.hid ht1; clear h1 ht1))
  go_wp2
  go_ret
  rw [HL.out]
  rw [← IntWalk.i64_left]
  exact ⟨rfl, H1.out, (Touch.of_below (S := R) (new_below _ _)).trans (HT1.out.undrewN) (fun k hk => .inl hk)⟩
set_option maxHeartbeats 1000000 in
set_option maxRecDepth 100000 in
theorem takes3 (R : Nat → Prop) (g p : Nat) (l : List Nat) (k n : Int) (s : ByteArray) (w : World) (hP : PR w R g l p 0) (k0 : -9223372036854775808 ≤ k) (k1 : k ≤ 9223372036854775807) (n0 : 0 ≤ n) (n1 : n ≤ 18446744073709551615) (hs : s.size ≤ 9223372036854775807) (h : k % 6 = 3) :
    Calls Try.prog 33 #[.pointer (some ⟨g, 0, none⟩), .agg #[.int .i64 k, .int .u64 n, .string s]] w (PMove w R g l (p + (takeF k n s (l.drop p)).2.1) ((takeF k n s (l.drop p)).2.2 : Int) (.bool (takeF k n s (l.drop p)).1)) := by
  have hc := clip40_size s
  have hz := wrap64_in n
  have hnew := hP.notNew
  have H := Lib.hid hP
  have HNW := Lib.hid hnew
  clear hP hnew
  have HL := Lib.hid (show takeF k n s (l.drop p) = ((str (fText 40 (l.drop p)).1).toList == (clip40 s).toList, (fText 40 (l.drop p)).2.1, (fText 40 (l.drop p)).2.2) by unfold takeF; rw [if_neg (by omega), if_neg (by omega), if_neg (by omega), if_pos h])
  have HK := Lib.hid h
  clear h
  have hbx : (w.alloc (.cells #[.int .i64 k, .int .u64 n, .string s] 30)).cell? ⟨w.heap.size, 2, none⟩ = some (.string s) := by simp
  have HBX := Lib.hid hbx
  clear hbx
  go_enter Try.func33, Try.ntmps33
  go_wp2_with fail
  refine (bring_is k 6 3 _ k0 k1 (by omega) (by omega) HK.out).mono ?_
  rintro x w1 ⟨rfl, rfl⟩
  go_wp2
  go_region_held3 (fun wx => wx.cell? ⟨w.heap.size, 2, none⟩ = some (.string s)) (first | exact HBX.out | exact hb')
    (first
    | (go_at_call 41; refine (clip s _ hs).mono ?_; rintro x w' ⟨rfl, rfl⟩)
    | (go_at_call 53; refine (p_text R g p l 40 _ ((H.out.later (new_below _ _)).drewN 1) (by omega) (by omega)).mono ?_; rintro x w1 ⟨rfl, h1, ht1⟩; have hb' : w1.cell? ⟨w.heap.size, 2, none⟩ = some (.string s) := box_kept HNW.out HBX.out ht1; have H1 := Lib.hid h1; have HT1 := Lib.hid ht1; clear h1 ht1))
  go_wp2
  go_ret
  rw [HL.out]
  exact ⟨rfl, H1.out, (Touch.of_below (S := R) (new_below _ _)).trans (HT1.out.undrewN) (fun k hk => .inl hk)⟩
set_option maxHeartbeats 1000000 in
set_option maxRecDepth 100000 in
theorem takes4 (R : Nat → Prop) (g p : Nat) (l : List Nat) (k n : Int) (s : ByteArray) (w : World) (hP : PR w R g l p 0) (k0 : -9223372036854775808 ≤ k) (k1 : k ≤ 9223372036854775807) (n0 : 0 ≤ n) (n1 : n ≤ 18446744073709551615) (hs : s.size ≤ 9223372036854775807) (h : k % 6 = 4) :
    Calls Try.prog 33 #[.pointer (some ⟨g, 0, none⟩), .agg #[.int .i64 k, .int .u64 n, .string s]] w (PMove w R g l (p + (takeF k n s (l.drop p)).2.1) ((takeF k n s (l.drop p)).2.2 : Int) (.bool (takeF k n s (l.drop p)).1)) := by
  have hc := clip40_size s
  have hz := wrap64_in n
  have hnew := hP.notNew
  have H := Lib.hid hP
  have HNW := Lib.hid hnew
  clear hP hnew
  have HL := Lib.hid (show takeF k n s (l.drop p) = ((str (fRaw (clip40 s).size (l.drop p)).1).toList == (clip40 s).toList, (fRaw (clip40 s).size (l.drop p)).2.1, (fRaw (clip40 s).size (l.drop p)).2.2) by unfold takeF; rw [if_neg (by omega), if_neg (by omega), if_neg (by omega), if_neg (by omega), if_pos h])
  have HK := Lib.hid h
  clear h
  have hbx : (w.alloc (.cells #[.int .i64 k, .int .u64 n, .string s] 30)).cell? ⟨w.heap.size, 2, none⟩ = some (.string s) := by simp
  have HBX := Lib.hid hbx
  clear hbx
  go_enter Try.func33, Try.ntmps33
  go_wp2_with fail
  refine (bring_is k 6 4 _ k0 k1 (by omega) (by omega) HK.out).mono ?_
  rintro x w1 ⟨rfl, rfl⟩
  go_wp2
  go_region_with
    (first
    | (go_at_call 41; refine (clip s _ hs).mono ?_; rintro x w' ⟨rfl, rfl⟩)
    | (go_at_call 34; refine (p_raw R g p l _ _ ((H.out.later (new_below _ _)).drewN 1) (by omega) (by omega)).mono ?_; rintro x w1 ⟨v1, rfl, ho1, h1, ht1⟩; have hb' : w1.cell? ⟨w.heap.size, 2, none⟩ = some (.string s) := box_kept HNW.out HBX.out ht1; have hstr := run_str w1 _ v1 _ ho1.rd; have H1 := Lib.hid h1; have HT1 := Lib.hid ht1; clear h1 ht1 ho1))
  all_goals
    go_wp2
    go_ret
    rw [HL.out]
    exact ⟨rfl, H1.out, (Touch.of_below (S := R) (new_below _ _)).trans (HT1.out.undrewN) (fun k hk => .inl hk)⟩
set_option maxHeartbeats 1000000 in
set_option maxRecDepth 100000 in
theorem takes5 (R : Nat → Prop) (g p : Nat) (l : List Nat) (k n : Int) (s : ByteArray) (w : World) (hP : PR w R g l p 0) (k0 : -9223372036854775808 ≤ k) (k1 : k ≤ 9223372036854775807) (n0 : 0 ≤ n) (n1 : n ≤ 18446744073709551615) (hs : s.size ≤ 9223372036854775807) (h : k % 6 = 5) :
    Calls Try.prog 33 #[.pointer (some ⟨g, 0, none⟩), .agg #[.int .i64 k, .int .u64 n, .string s]] w (PMove w R g l (p + (takeF k n s (l.drop p)).2.1) ((takeF k n s (l.drop p)).2.2 : Int) (.bool (takeF k n s (l.drop p)).1)) := by
  have hc := clip40_size s
  have hz := wrap64_in n
  have hnew := hP.notNew
  have H := Lib.hid hP
  have HNW := Lib.hid hnew
  clear hP hnew
  have HL := Lib.hid (show takeF k n s (l.drop p) = (decide (((fWord (l.drop p)).1 : Int) = n % 4294967296), (fWord (l.drop p)).2.1, (fWord (l.drop p)).2.2) by unfold takeF; rw [if_neg (by omega), if_neg (by omega), if_neg (by omega), if_neg (by omega), if_neg (by omega)])
  have HK := Lib.hid h
  clear h
  have hbx : (w.alloc (.cells #[.int .i64 k, .int .u64 n, .string s] 30)).cell? ⟨w.heap.size, 1, none⟩ = some (.int .u64 n) := by simp
  have HBX := Lib.hid hbx
  clear hbx
  go_enter Try.func33, Try.ntmps33
  go_wp2_with fail
  refine (bring_is k 6 5 _ k0 k1 (by omega) (by omega) HK.out).mono ?_
  rintro x w1 ⟨rfl, rfl⟩
  go_wp2
  go_region_held3 (fun wx => wx.cell? ⟨w.heap.size, 1, none⟩ = some (.int .u64 n)) (first | exact HBX.out | exact hb')
    (first
    | (go_at_call 56; refine (p_word R g p l _ ((H.out.later (new_below _ _)).drewN 1)).mono ?_; rintro x w1 ⟨rfl, h1, ht1⟩; have hb' : w1.cell? ⟨w.heap.size, 1, none⟩ = some (.int .u64 n) := box_kept HNW.out HBX.out ht1; have H1 := Lib.hid h1; have HT1 := Lib.hid ht1; clear h1 ht1))
  go_wp2
  go_ret
  rw [HL.out]
  exact ⟨rfl, H1.out, (Touch.of_below (S := R) (new_below _ _)).trans (HT1.out.undrewN) (fun k hk => .inl hk)⟩
theorem takes (R : Nat → Prop) (g p : Nat) (l : List Nat) (k n : Int) (s : ByteArray) (w : World) (hP : PR w R g l p 0) (k0 : -9223372036854775808 ≤ k) (k1 : k ≤ 9223372036854775807) (n0 : 0 ≤ n) (n1 : n ≤ 18446744073709551615) (hs : s.size ≤ 9223372036854775807) :
    Calls Try.prog 33 #[.pointer (some ⟨g, 0, none⟩), .agg #[.int .i64 k, .int .u64 n, .string s]] w (PMove w R g l (p + (takeF k n s (l.drop p)).2.1) ((takeF k n s (l.drop p)).2.2 : Int) (.bool (takeF k n s (l.drop p)).1)) := by
  rcases six k with h | h | h | h | h | h
  · exact takes0 R g p l k n s w hP k0 k1 n0 n1 hs h
  · exact takes1 R g p l k n s w hP k0 k1 n0 n1 hs h
  · exact takes2 R g p l k n s w hP k0 k1 n0 n1 hs h
  · exact takes3 R g p l k n s w hP k0 k1 n0 n1 hs h
  · exact takes4 R g p l k n s w hP k0 k1 n0 n1 hs h
  · exact takes5 R g p l k n s w hP k0 k1 n0 n1 hs h
end Go.Proofs.Ytdijcgjgdfhapaa
