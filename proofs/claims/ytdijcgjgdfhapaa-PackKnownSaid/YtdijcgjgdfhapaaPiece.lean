/- The pieces of the laws, put by both writers. -/
import Derived.Test.YtdijcgjgdfhapaaWord
namespace Go.Proofs.Ytdijcgjgdfhapaa
open Go.RowKit
set_option linter.unusedVariables false

theorem up {w w1 w2 : World} (h : Below w.heap.size w w1) (h2 : Below w1.heap.size w1 w2) : Below w.heap.size w w2 := h.trans (h2.mono h.size)
theorem bring_is (x n y : Int) (w : World) (h0 : -9223372036854775808 ≤ x) (h1 : x ≤ 9223372036854775807) (hn : 0 < n) (hn' : n ≤ 1000000) (hy : x % n = y) :
    Calls Try.prog 35 #[.int .i64 x, .int .i64 n] w fun e w' => e = .returned (.int .i64 y) ∧ w = w' :=
  (bring x n w h0 h1 hn hn').mono fun _ _ ⟨he, hw⟩ => ⟨he.trans (by rw [hy]), hw⟩

/-- The bytes of a piece. -/
def pieceL (k : Int) (n : Int) (s : ByteArray) : List Nat :=
  if k % 6 = 0 then [(n % 256).toNat] else if k % 6 = 1 then Leb.enc n.toNat else if k % 6 = 2 then Leb.enc (zigN (wrap64 n)).toNat else
  if k % 6 = 3 then Leb.enc (clip40 s).size ++ bl (clip40 s) else if k % 6 = 4 then bl (clip40 s) else wordL (n % 4294967296).toNat
theorem pieceL_len (k n : Int) (s : ByteArray) : (pieceL k n s).length ≤ 50 := by
  have h1 := Leb.enc_len n.toNat
  have h2 := Leb.enc_len (zigN (wrap64 n)).toNat
  have h3 := Leb.enc_len (clip40 s).size
  have h4 := clip40_size s
  have h5 := bl_length (clip40 s)
  unfold pieceL
  repeat' split
  all_goals simp [wordL]
  all_goals omega
theorem wrap64_in (z : Int) : -9223372036854775808 ≤ wrap64 z ∧ wrap64 z ≤ 9223372036854775807 := by unfold wrap64; omega
theorem six (k : Int) : k % 6 = 0 ∨ k % 6 = 1 ∨ k % 6 = 2 ∨ k % 6 = 3 ∨ k % 6 = 4 ∨ k % 6 = 5 := by omega

theorem wByteZ (g m : Nat) (f : Bool) (l : List Nat) (z : Int) (R : Nat → Prop) (w : World) (P : PW w R g m (f, l)) (hm : (m : Int) ≤ 9223372036854775807) (hl : l.length ≤ 100000000) (h0 : 0 ≤ z) (h1 : z ≤ 255) :
    Calls Try.prog 37 #[.pointer (some ⟨g, 0, none⟩), .int .u8 z] w (PPut w R g m (puts m f l [z.toNat])) := by
  obtain ⟨c, rfl⟩ := Int.eq_ofNat_of_zero_le h0
  exact wByte g m f l c R w P hm hl (by omega)
theorem wWordZ (g m : Nat) (f : Bool) (l : List Nat) (z : Int) (R : Nat → Prop) (w : World) (P : PW w R g m (f, l)) (hm : (m : Int) ≤ 9223372036854775807) (hl : l.length ≤ 100000000) (h0 : 0 ≤ z) (h1 : z ≤ 4294967295) :
    Calls Try.prog 43 #[.pointer (some ⟨g, 0, none⟩), .int .u32 z] w (PPut w R g m (puts m f l (wordL z.toNat))) := by
  obtain ⟨c, rfl⟩ := Int.eq_ofNat_of_zero_le h0
  exact wWord g m f l c R w P hm hl h1
theorem rd_bytes1 (w : World) (o : Obj) (s : ByteArray) (h : s.size ≤ 100000000) :
    Rd (Lib.bytesWorld (w.alloc o) 5 s) (Lib.bytesWorld (w.alloc o) 5 s).heap.size (.slice (some ⟨w.heap.size + 1, 0, none⟩) s.size (grownCap (w.alloc o) s.size 0 5)) (bl s) := by
  have h1 := rd_bytes (w.alloc o) s h
  have e : (w.alloc o).heap.size = w.heap.size + 1 := by simp
  rw [show (⟨(w.alloc o).heap.size, 0, none⟩ : Addr) = ⟨w.heap.size + 1, 0, none⟩ by rw [e]] at h1
  exact h1
set_option maxHeartbeats 400000 in
set_option maxRecDepth 100000 in
theorem wPiece0 (g m : Nat) (f : Bool) (l : List Nat) (k n : Int) (s : ByteArray) (R : Nat → Prop) (w : World) (P : PW w R g m (f, l)) (hm : (m : Int) ≤ 9223372036854775807) (hl : l.length ≤ 100000000)
    (k0 : -9223372036854775808 ≤ k) (k1 : k ≤ 9223372036854775807) (n0 : 0 ≤ n) (n1 : n ≤ 18446744073709551615) (hs : s.size ≤ 9223372036854775807) (h : k % 6 = 0) :
    Calls Try.prog 13 #[.pointer (some ⟨g, 0, none⟩), .agg #[.int .i64 k, .int .u64 n, .string s]] w (PPut w R g m (puts m f l (pieceL k n s))) := by
  have HP := Lib.hid P
  have hc := clip40_size s
  have hz := wrap64_in n
  clear P
  have HL := Lib.hid (show pieceL k n s = [(n % 256).toNat] by unfold pieceL; rw [if_pos h])
  have HK := Lib.hid h
  clear h
  go_enter Try.func13, Try.ntmps13
  go_wp2_with fail
  refine (bring_is k 6 0 _ k0 k1 (by omega) (by omega) HK.out).mono ?_
  rintro x w1 ⟨rfl, rfl⟩
  go_wp2_with fail
  refine (wByteZ g m f l _ R _ (HP.out.later (new_below _ _)) hm hl (by omega) (by omega)).mono ?_
  rintro x w1 h1
  obtain ⟨rfl, h2⟩ := h1.lift (new_below _ _)
  have H2 := Lib.hid h2
  clear h1 h2
  go_wp2
  go_end0
  rw [HL.out]
  exact ⟨rfl, H2.out⟩
set_option maxHeartbeats 400000 in
set_option maxRecDepth 100000 in
theorem wPiece1 (g m : Nat) (f : Bool) (l : List Nat) (k n : Int) (s : ByteArray) (R : Nat → Prop) (w : World) (P : PW w R g m (f, l)) (hm : (m : Int) ≤ 9223372036854775807) (hl : l.length ≤ 100000000)
    (k0 : -9223372036854775808 ≤ k) (k1 : k ≤ 9223372036854775807) (n0 : 0 ≤ n) (n1 : n ≤ 18446744073709551615) (hs : s.size ≤ 9223372036854775807) (h : k % 6 = 1) :
    Calls Try.prog 13 #[.pointer (some ⟨g, 0, none⟩), .agg #[.int .i64 k, .int .u64 n, .string s]] w (PPut w R g m (puts m f l (pieceL k n s))) := by
  have HP := Lib.hid P
  have hc := clip40_size s
  have hz := wrap64_in n
  clear P
  have HL := Lib.hid (show pieceL k n s = Leb.enc n.toNat by unfold pieceL; rw [if_neg (by omega), if_pos h])
  have HK := Lib.hid h
  clear h
  go_enter Try.func13, Try.ntmps13
  go_wp2_with fail
  refine (bring_is k 6 1 _ k0 k1 (by omega) (by omega) HK.out).mono ?_
  rintro x w1 ⟨rfl, rfl⟩
  go_wp2_with fail
  refine (wVar g m f l _ R _ (HP.out.later (new_below _ _)) hm hl n0 n1).mono ?_
  rintro x w1 h1
  obtain ⟨rfl, h2⟩ := h1.lift (new_below _ _)
  have H2 := Lib.hid h2
  clear h1 h2
  go_wp2
  go_end0
  rw [HL.out]
  exact ⟨rfl, H2.out⟩
set_option maxHeartbeats 400000 in
set_option maxRecDepth 100000 in
theorem wPiece2 (g m : Nat) (f : Bool) (l : List Nat) (k n : Int) (s : ByteArray) (R : Nat → Prop) (w : World) (P : PW w R g m (f, l)) (hm : (m : Int) ≤ 9223372036854775807) (hl : l.length ≤ 100000000)
    (k0 : -9223372036854775808 ≤ k) (k1 : k ≤ 9223372036854775807) (n0 : 0 ≤ n) (n1 : n ≤ 18446744073709551615) (hs : s.size ≤ 9223372036854775807) (h : k % 6 = 2) :
    Calls Try.prog 13 #[.pointer (some ⟨g, 0, none⟩), .agg #[.int .i64 k, .int .u64 n, .string s]] w (PPut w R g m (puts m f l (pieceL k n s))) := by
  have HP := Lib.hid P
  have hc := clip40_size s
  have hz := wrap64_in n
  clear P
  have HL := Lib.hid (show pieceL k n s = Leb.enc (zigN (wrap64 n)).toNat by unfold pieceL; rw [if_neg (by omega), if_neg (by omega), if_pos h])
  have HK := Lib.hid h
  clear h
  go_enter Try.func13, Try.ntmps13
  go_wp2_with fail
  refine (bring_is k 6 2 _ k0 k1 (by omega) (by omega) HK.out).mono ?_
  rintro x w1 ⟨rfl, rfl⟩
  go_wp2_with fail
  refine (wInt g m f l _ R _ (HP.out.later (new_below _ _)) hm hl hz.1 hz.2).mono ?_
  rintro x w1 h1
  obtain ⟨rfl, h2⟩ := h1.lift (new_below _ _)
  have H2 := Lib.hid h2
  clear h1 h2
  go_wp2
  go_end0
  rw [HL.out]
  exact ⟨rfl, H2.out⟩
set_option maxHeartbeats 400000 in
set_option maxRecDepth 100000 in
theorem wPiece3 (g m : Nat) (f : Bool) (l : List Nat) (k n : Int) (s : ByteArray) (R : Nat → Prop) (w : World) (P : PW w R g m (f, l)) (hm : (m : Int) ≤ 9223372036854775807) (hl : l.length ≤ 100000000)
    (k0 : -9223372036854775808 ≤ k) (k1 : k ≤ 9223372036854775807) (n0 : 0 ≤ n) (n1 : n ≤ 18446744073709551615) (hs : s.size ≤ 9223372036854775807) (h : k % 6 = 3) :
    Calls Try.prog 13 #[.pointer (some ⟨g, 0, none⟩), .agg #[.int .i64 k, .int .u64 n, .string s]] w (PPut w R g m (puts m f l (pieceL k n s))) := by
  have HP := Lib.hid P
  have hc := clip40_size s
  have hz := wrap64_in n
  clear P
  have HL := Lib.hid (show pieceL k n s = Leb.enc (clip40 s).size ++ bl (clip40 s) by unfold pieceL; rw [if_neg (by omega), if_neg (by omega), if_neg (by omega), if_pos h])
  have HK := Lib.hid h
  clear h
  go_enter Try.func13, Try.ntmps13
  go_wp2_with fail
  refine (bring_is k 6 3 _ k0 k1 (by omega) (by omega) HK.out).mono ?_
  rintro x w1 ⟨rfl, rfl⟩
  go_wp2_with fail
  refine (clip s _ hs).mono ?_
  rintro x w1 ⟨rfl, rfl⟩
  go_wp2_with fail
  refine (wText g m f l _ R _ (HP.out.later (new_below _ _)) hm hl (by omega)).mono ?_
  rintro x w1 h1
  obtain ⟨rfl, h2⟩ := h1.lift (new_below _ _)
  have H2 := Lib.hid h2
  clear h1 h2
  go_wp2
  go_end0
  rw [HL.out]
  exact ⟨rfl, H2.out⟩
set_option maxHeartbeats 400000 in
set_option maxRecDepth 100000 in
theorem wPiece4 (g m : Nat) (f : Bool) (l : List Nat) (k n : Int) (s : ByteArray) (R : Nat → Prop) (w : World) (P : PW w R g m (f, l)) (hm : (m : Int) ≤ 9223372036854775807) (hl : l.length ≤ 100000000)
    (k0 : -9223372036854775808 ≤ k) (k1 : k ≤ 9223372036854775807) (n0 : 0 ≤ n) (n1 : n ≤ 18446744073709551615) (hs : s.size ≤ 9223372036854775807) (h : k % 6 = 4) :
    Calls Try.prog 13 #[.pointer (some ⟨g, 0, none⟩), .agg #[.int .i64 k, .int .u64 n, .string s]] w (PPut w R g m (puts m f l (pieceL k n s))) := by
  have HP := Lib.hid P
  have hc := clip40_size s
  have hz := wrap64_in n
  clear P
  have HL := Lib.hid (show pieceL k n s = bl (clip40 s) by unfold pieceL; rw [if_neg (by omega), if_neg (by omega), if_neg (by omega), if_neg (by omega), if_pos h])
  have HK := Lib.hid h
  clear h
  have hcv := Lib.run_convert_string_bytes (P := Try.prog) (w.alloc (.cells #[.int .i64 k, .int .u64 n, .string s] 30)) 9 32 5 (clip40 s) Try.underlying9 Try.underlying32 Try.underlying5
  go_enter Try.func13, Try.ntmps13
  go_wp2_with fail
  refine (bring_is k 6 4 _ k0 k1 (by omega) (by omega) HK.out).mono ?_
  rintro x w1 ⟨rfl, rfl⟩
  go_wp2_with fail
  refine (clip s _ hs).mono ?_
  rintro x w1 ⟨rfl, rfl⟩
  go_wp2_with fail
  refine (wRaw g m f l _ _ R _ (HP.out.later (up (new_below w _) (bytes_below _ _))) (rd_bytes1 w _ _ (by omega)) hm hl (by rw [bl_length]; omega)).mono ?_
  rintro x w1 h1
  obtain ⟨rfl, h2⟩ := h1.lift (up (new_below w _) (bytes_below _ _))
  have H2 := Lib.hid h2
  clear h1 h2
  go_wp2
  go_end0
  rw [HL.out]
  exact ⟨rfl, H2.out⟩
set_option maxHeartbeats 400000 in
set_option maxRecDepth 100000 in
theorem wPiece5 (g m : Nat) (f : Bool) (l : List Nat) (k n : Int) (s : ByteArray) (R : Nat → Prop) (w : World) (P : PW w R g m (f, l)) (hm : (m : Int) ≤ 9223372036854775807) (hl : l.length ≤ 100000000)
    (k0 : -9223372036854775808 ≤ k) (k1 : k ≤ 9223372036854775807) (n0 : 0 ≤ n) (n1 : n ≤ 18446744073709551615) (hs : s.size ≤ 9223372036854775807) (h : k % 6 = 5) :
    Calls Try.prog 13 #[.pointer (some ⟨g, 0, none⟩), .agg #[.int .i64 k, .int .u64 n, .string s]] w (PPut w R g m (puts m f l (pieceL k n s))) := by
  have HP := Lib.hid P
  have hc := clip40_size s
  have hz := wrap64_in n
  clear P
  have HL := Lib.hid (show pieceL k n s = wordL (n % 4294967296).toNat by unfold pieceL; rw [if_neg (by omega), if_neg (by omega), if_neg (by omega), if_neg (by omega), if_neg (by omega)])
  have HK := Lib.hid h
  clear h
  go_enter Try.func13, Try.ntmps13
  go_wp2_with fail
  refine (bring_is k 6 5 _ k0 k1 (by omega) (by omega) HK.out).mono ?_
  rintro x w1 ⟨rfl, rfl⟩
  go_wp2_with fail
  refine (wWordZ g m f l _ R _ (HP.out.later (new_below _ _)) hm hl (by omega) (by omega)).mono ?_
  rintro x w1 h1
  obtain ⟨rfl, h2⟩ := h1.lift (new_below _ _)
  have H2 := Lib.hid h2
  clear h1 h2
  go_wp2
  go_end0
  rw [HL.out]
  exact ⟨rfl, H2.out⟩
theorem wPiece (g m : Nat) (f : Bool) (l : List Nat) (k n : Int) (s : ByteArray) (R : Nat → Prop) (w : World) (P : PW w R g m (f, l)) (hm : (m : Int) ≤ 9223372036854775807) (hl : l.length ≤ 100000000)
    (k0 : -9223372036854775808 ≤ k) (k1 : k ≤ 9223372036854775807) (n0 : 0 ≤ n) (n1 : n ≤ 18446744073709551615) (hs : s.size ≤ 9223372036854775807) :
    Calls Try.prog 13 #[.pointer (some ⟨g, 0, none⟩), .agg #[.int .i64 k, .int .u64 n, .string s]] w (PPut w R g m (puts m f l (pieceL k n s))) := by
  rcases six k with h | h | h | h | h | h
  · exact wPiece0 g m f l k n s R w P hm hl k0 k1 n0 n1 hs h
  · exact wPiece1 g m f l k n s R w P hm hl k0 k1 n0 n1 hs h
  · exact wPiece2 g m f l k n s R w P hm hl k0 k1 n0 n1 hs h
  · exact wPiece3 g m f l k n s R w P hm hl k0 k1 n0 n1 hs h
  · exact wPiece4 g m f l k n s R w P hm hl k0 k1 n0 n1 hs h
  · exact wPiece5 g m f l k n s R w P hm hl k0 k1 n0 n1 hs h
theorem rByteZ (g m : Nat) (f : Bool) (l : List Nat) (z : Int) (R : Nat → Prop) (w : World) (P : RW w R g m (f, l)) (hm : (m : Int) ≤ 9223372036854775807) (hl : l.length ≤ 100000000) (h0 : 0 ≤ z) (h1 : z ≤ 255) :
    Calls Try.prog 44 #[.pointer (some ⟨g, 0, none⟩), .int .u8 z] w (RPut w R g m (puts m f l [z.toNat])) := by
  obtain ⟨c, rfl⟩ := Int.eq_ofNat_of_zero_le h0
  exact rByte g m f l c R w P hm hl (by omega)
theorem rWordZ (g m : Nat) (f : Bool) (l : List Nat) (z : Int) (R : Nat → Prop) (w : World) (P : RW w R g m (f, l)) (hm : (m : Int) ≤ 9223372036854775807) (hl : l.length ≤ 100000000) (h0 : 0 ≤ z) (h1 : z ≤ 4294967295) :
    Calls Try.prog 49 #[.pointer (some ⟨g, 0, none⟩), .int .u32 z] w (RPut w R g m (puts m f l (wordL z.toNat))) := by
  obtain ⟨c, rfl⟩ := Int.eq_ofNat_of_zero_le h0
  exact rWord g m f l c R w P hm hl h1
set_option maxHeartbeats 400000 in
set_option maxRecDepth 100000 in
theorem rPiece0 (g m : Nat) (f : Bool) (l : List Nat) (k n : Int) (s : ByteArray) (R : Nat → Prop) (w : World) (P : RW w R g m (f, l)) (hm : (m : Int) ≤ 9223372036854775807) (hl : l.length ≤ 100000000)
    (k0 : -9223372036854775808 ≤ k) (k1 : k ≤ 9223372036854775807) (n0 : 0 ≤ n) (n1 : n ≤ 18446744073709551615) (hs : s.size ≤ 9223372036854775807) (h : k % 6 = 0) :
    Calls Try.prog 14 #[.pointer (some ⟨g, 0, none⟩), .agg #[.int .i64 k, .int .u64 n, .string s]] w (RPut w R g m (puts m f l (pieceL k n s))) := by
  have HP := Lib.hid P
  have hc := clip40_size s
  have hz := wrap64_in n
  clear P
  have HL := Lib.hid (show pieceL k n s = [(n % 256).toNat] by unfold pieceL; rw [if_pos h])
  have HK := Lib.hid h
  clear h
  go_enter Try.func14, Try.ntmps14
  go_wp2_with fail
  refine (bring_is k 6 0 _ k0 k1 (by omega) (by omega) HK.out).mono ?_
  rintro x w1 ⟨rfl, rfl⟩
  go_wp2_with fail
  refine (rByteZ g m f l _ R _ (HP.out.later (new_below _ _)) hm hl (by omega) (by omega)).mono ?_
  rintro x w1 h1
  obtain ⟨rfl, h2⟩ := h1.lift (new_below _ _)
  have H2 := Lib.hid h2
  clear h1 h2
  go_wp2
  go_end0
  rw [HL.out]
  exact ⟨rfl, H2.out⟩
set_option maxHeartbeats 400000 in
set_option maxRecDepth 100000 in
theorem rPiece1 (g m : Nat) (f : Bool) (l : List Nat) (k n : Int) (s : ByteArray) (R : Nat → Prop) (w : World) (P : RW w R g m (f, l)) (hm : (m : Int) ≤ 9223372036854775807) (hl : l.length ≤ 100000000)
    (k0 : -9223372036854775808 ≤ k) (k1 : k ≤ 9223372036854775807) (n0 : 0 ≤ n) (n1 : n ≤ 18446744073709551615) (hs : s.size ≤ 9223372036854775807) (h : k % 6 = 1) :
    Calls Try.prog 14 #[.pointer (some ⟨g, 0, none⟩), .agg #[.int .i64 k, .int .u64 n, .string s]] w (RPut w R g m (puts m f l (pieceL k n s))) := by
  have HP := Lib.hid P
  have hc := clip40_size s
  have hz := wrap64_in n
  clear P
  have HL := Lib.hid (show pieceL k n s = Leb.enc n.toNat by unfold pieceL; rw [if_neg (by omega), if_pos h])
  have HK := Lib.hid h
  clear h
  go_enter Try.func14, Try.ntmps14
  go_wp2_with fail
  refine (bring_is k 6 1 _ k0 k1 (by omega) (by omega) HK.out).mono ?_
  rintro x w1 ⟨rfl, rfl⟩
  go_wp2_with fail
  refine (rVar g m f l _ R _ (HP.out.later (new_below _ _)) hm hl n0 n1).mono ?_
  rintro x w1 h1
  obtain ⟨rfl, h2⟩ := h1.lift (new_below _ _)
  have H2 := Lib.hid h2
  clear h1 h2
  go_wp2
  go_end0
  rw [HL.out]
  exact ⟨rfl, H2.out⟩
set_option maxHeartbeats 400000 in
set_option maxRecDepth 100000 in
theorem rPiece2 (g m : Nat) (f : Bool) (l : List Nat) (k n : Int) (s : ByteArray) (R : Nat → Prop) (w : World) (P : RW w R g m (f, l)) (hm : (m : Int) ≤ 9223372036854775807) (hl : l.length ≤ 100000000)
    (k0 : -9223372036854775808 ≤ k) (k1 : k ≤ 9223372036854775807) (n0 : 0 ≤ n) (n1 : n ≤ 18446744073709551615) (hs : s.size ≤ 9223372036854775807) (h : k % 6 = 2) :
    Calls Try.prog 14 #[.pointer (some ⟨g, 0, none⟩), .agg #[.int .i64 k, .int .u64 n, .string s]] w (RPut w R g m (puts m f l (pieceL k n s))) := by
  have HP := Lib.hid P
  have hc := clip40_size s
  have hz := wrap64_in n
  clear P
  have HL := Lib.hid (show pieceL k n s = Leb.enc (zigN (wrap64 n)).toNat by unfold pieceL; rw [if_neg (by omega), if_neg (by omega), if_pos h])
  have HK := Lib.hid h
  clear h
  go_enter Try.func14, Try.ntmps14
  go_wp2_with fail
  refine (bring_is k 6 2 _ k0 k1 (by omega) (by omega) HK.out).mono ?_
  rintro x w1 ⟨rfl, rfl⟩
  go_wp2_with fail
  refine (rInt g m f l _ R _ (HP.out.later (new_below _ _)) hm hl hz.1 hz.2).mono ?_
  rintro x w1 h1
  obtain ⟨rfl, h2⟩ := h1.lift (new_below _ _)
  have H2 := Lib.hid h2
  clear h1 h2
  go_wp2
  go_end0
  rw [HL.out]
  exact ⟨rfl, H2.out⟩
set_option maxHeartbeats 400000 in
set_option maxRecDepth 100000 in
theorem rPiece3 (g m : Nat) (f : Bool) (l : List Nat) (k n : Int) (s : ByteArray) (R : Nat → Prop) (w : World) (P : RW w R g m (f, l)) (hm : (m : Int) ≤ 9223372036854775807) (hl : l.length ≤ 100000000)
    (k0 : -9223372036854775808 ≤ k) (k1 : k ≤ 9223372036854775807) (n0 : 0 ≤ n) (n1 : n ≤ 18446744073709551615) (hs : s.size ≤ 9223372036854775807) (h : k % 6 = 3) :
    Calls Try.prog 14 #[.pointer (some ⟨g, 0, none⟩), .agg #[.int .i64 k, .int .u64 n, .string s]] w (RPut w R g m (puts m f l (pieceL k n s))) := by
  have HP := Lib.hid P
  have hc := clip40_size s
  have hz := wrap64_in n
  clear P
  have HL := Lib.hid (show pieceL k n s = Leb.enc (clip40 s).size ++ bl (clip40 s) by unfold pieceL; rw [if_neg (by omega), if_neg (by omega), if_neg (by omega), if_pos h])
  have HK := Lib.hid h
  clear h
  go_enter Try.func14, Try.ntmps14
  go_wp2_with fail
  refine (bring_is k 6 3 _ k0 k1 (by omega) (by omega) HK.out).mono ?_
  rintro x w1 ⟨rfl, rfl⟩
  go_wp2_with fail
  refine (clip s _ hs).mono ?_
  rintro x w1 ⟨rfl, rfl⟩
  go_wp2_with fail
  refine (rText g m f l _ R _ (HP.out.later (new_below _ _)) hm hl (by omega)).mono ?_
  rintro x w1 h1
  obtain ⟨rfl, h2⟩ := h1.lift (new_below _ _)
  have H2 := Lib.hid h2
  clear h1 h2
  go_wp2
  go_end0
  rw [HL.out]
  exact ⟨rfl, H2.out⟩
set_option maxHeartbeats 400000 in
set_option maxRecDepth 100000 in
theorem rPiece4 (g m : Nat) (f : Bool) (l : List Nat) (k n : Int) (s : ByteArray) (R : Nat → Prop) (w : World) (P : RW w R g m (f, l)) (hm : (m : Int) ≤ 9223372036854775807) (hl : l.length ≤ 100000000)
    (k0 : -9223372036854775808 ≤ k) (k1 : k ≤ 9223372036854775807) (n0 : 0 ≤ n) (n1 : n ≤ 18446744073709551615) (hs : s.size ≤ 9223372036854775807) (h : k % 6 = 4) :
    Calls Try.prog 14 #[.pointer (some ⟨g, 0, none⟩), .agg #[.int .i64 k, .int .u64 n, .string s]] w (RPut w R g m (puts m f l (pieceL k n s))) := by
  have HP := Lib.hid P
  have hc := clip40_size s
  have hz := wrap64_in n
  clear P
  have HL := Lib.hid (show pieceL k n s = bl (clip40 s) by unfold pieceL; rw [if_neg (by omega), if_neg (by omega), if_neg (by omega), if_neg (by omega), if_pos h])
  have HK := Lib.hid h
  clear h
  have hcv := Lib.run_convert_string_bytes (P := Try.prog) (w.alloc (.cells #[.int .i64 k, .int .u64 n, .string s] 30)) 9 32 5 (clip40 s) Try.underlying9 Try.underlying32 Try.underlying5
  go_enter Try.func14, Try.ntmps14
  go_wp2_with fail
  refine (bring_is k 6 4 _ k0 k1 (by omega) (by omega) HK.out).mono ?_
  rintro x w1 ⟨rfl, rfl⟩
  go_wp2_with fail
  refine (clip s _ hs).mono ?_
  rintro x w1 ⟨rfl, rfl⟩
  go_wp2_with fail
  refine (rraw g m f l _ R _ _ (HP.out.later (up (new_below w _) (bytes_below _ _))) (rd_bytes1 w _ _ (by omega)) hm hl (by rw [bl_length]; omega)).mono ?_
  rintro x w1 h1
  obtain ⟨rfl, h2⟩ := h1.lift (up (new_below w _) (bytes_below _ _))
  have H2 := Lib.hid h2
  clear h1 h2
  go_wp2
  go_end0
  rw [HL.out]
  exact ⟨rfl, H2.out⟩
set_option maxHeartbeats 400000 in
set_option maxRecDepth 100000 in
theorem rPiece5 (g m : Nat) (f : Bool) (l : List Nat) (k n : Int) (s : ByteArray) (R : Nat → Prop) (w : World) (P : RW w R g m (f, l)) (hm : (m : Int) ≤ 9223372036854775807) (hl : l.length ≤ 100000000)
    (k0 : -9223372036854775808 ≤ k) (k1 : k ≤ 9223372036854775807) (n0 : 0 ≤ n) (n1 : n ≤ 18446744073709551615) (hs : s.size ≤ 9223372036854775807) (h : k % 6 = 5) :
    Calls Try.prog 14 #[.pointer (some ⟨g, 0, none⟩), .agg #[.int .i64 k, .int .u64 n, .string s]] w (RPut w R g m (puts m f l (pieceL k n s))) := by
  have HP := Lib.hid P
  have hc := clip40_size s
  have hz := wrap64_in n
  clear P
  have HL := Lib.hid (show pieceL k n s = wordL (n % 4294967296).toNat by unfold pieceL; rw [if_neg (by omega), if_neg (by omega), if_neg (by omega), if_neg (by omega), if_neg (by omega)])
  have HK := Lib.hid h
  clear h
  go_enter Try.func14, Try.ntmps14
  go_wp2_with fail
  refine (bring_is k 6 5 _ k0 k1 (by omega) (by omega) HK.out).mono ?_
  rintro x w1 ⟨rfl, rfl⟩
  go_wp2_with fail
  refine (rWordZ g m f l _ R _ (HP.out.later (new_below _ _)) hm hl (by omega) (by omega)).mono ?_
  rintro x w1 h1
  obtain ⟨rfl, h2⟩ := h1.lift (new_below _ _)
  have H2 := Lib.hid h2
  clear h1 h2
  go_wp2
  go_end0
  rw [HL.out]
  exact ⟨rfl, H2.out⟩
theorem rPiece (g m : Nat) (f : Bool) (l : List Nat) (k n : Int) (s : ByteArray) (R : Nat → Prop) (w : World) (P : RW w R g m (f, l)) (hm : (m : Int) ≤ 9223372036854775807) (hl : l.length ≤ 100000000)
    (k0 : -9223372036854775808 ≤ k) (k1 : k ≤ 9223372036854775807) (n0 : 0 ≤ n) (n1 : n ≤ 18446744073709551615) (hs : s.size ≤ 9223372036854775807) :
    Calls Try.prog 14 #[.pointer (some ⟨g, 0, none⟩), .agg #[.int .i64 k, .int .u64 n, .string s]] w (RPut w R g m (puts m f l (pieceL k n s))) := by
  rcases six k with h | h | h | h | h | h
  · exact rPiece0 g m f l k n s R w P hm hl k0 k1 n0 n1 hs h
  · exact rPiece1 g m f l k n s R w P hm hl k0 k1 n0 n1 hs h
  · exact rPiece2 g m f l k n s R w P hm hl k0 k1 n0 n1 hs h
  · exact rPiece3 g m f l k n s R w P hm hl k0 k1 n0 n1 hs h
  · exact rPiece4 g m f l k n s R w P hm hl k0 k1 n0 n1 hs h
  · exact rPiece5 g m f l k n s R w P hm hl k0 k1 n0 n1 hs h
end Go.Proofs.Ytdijcgjgdfhapaa
