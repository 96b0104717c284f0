/- How many bytes a piece has. -/
import Derived.Test.YtdijcgjgdfhapaaArgs
namespace Go.Proofs.Ytdijcgjgdfhapaa
open Go.RowKit
set_option linter.unusedVariables false

def SizeP (w : World) (n : Nat) (x : Ending) (w' : World) : Prop := x = .returned (.int .i64 (n : Int)) ∧ Below w.heap.size w w'
theorem below_new_drewN (w : World) (o : Obj) (n : Nat) : Below w.heap.size w ((w.alloc o).drewN n) := below_drewN (new_below w o) n
set_option maxHeartbeats 400000 in
set_option maxRecDepth 100000 in
theorem psize0 (k n : Int) (s : ByteArray) (w : World) (k0 : -9223372036854775808 ≤ k) (k1 : k ≤ 9223372036854775807) (n0 : 0 ≤ n) (n1 : n ≤ 18446744073709551615) (hs : s.size ≤ 9223372036854775807) (h : k % 6 = 0) :
    Calls Try.prog 32 #[.agg #[.int .i64 k, .int .u64 n, .string s]] w (SizeP w (pieceL k n s).length) := by
  have hc := clip40_size s
  have hz := wrap64_in n
  have hzr := zig_range (wrap64 n) hz.1 hz.2
  have he3 := Leb.enc_len (clip40 s).size
  have HL := Lib.hid (show (pieceL k n s).length = 1 by rw [show pieceL k n s = [(n % 256).toNat] by unfold pieceL; rw [if_pos h]]; rfl)
  have HK := Lib.hid h
  clear h
  go_enter Try.func32, Try.ntmps32
  go_wp2_with fail
  refine (bring_is k 6 0 _ k0 k1 (by omega) (by omega) HK.out).mono ?_
  rintro x w1 ⟨rfl, rfl⟩
  go_wp2
  go_ret
  rw [HL.out]
  exact ⟨rfl, new_below _ _⟩
set_option maxHeartbeats 400000 in
set_option maxRecDepth 100000 in
theorem psize1 (k n : Int) (s : ByteArray) (w : World) (k0 : -9223372036854775808 ≤ k) (k1 : k ≤ 9223372036854775807) (n0 : 0 ≤ n) (n1 : n ≤ 18446744073709551615) (hs : s.size ≤ 9223372036854775807) (h : k % 6 = 1) :
    Calls Try.prog 32 #[.agg #[.int .i64 k, .int .u64 n, .string s]] w (SizeP w (pieceL k n s).length) := by
  have hc := clip40_size s
  have hz := wrap64_in n
  have hzr := zig_range (wrap64 n) hz.1 hz.2
  have he3 := Leb.enc_len (clip40 s).size
  have HL := Lib.hid (show (pieceL k n s).length = (Leb.enc n.toNat).length by rw [show pieceL k n s = Leb.enc n.toNat by unfold pieceL; rw [if_neg (by omega), if_pos h]])
  have HK := Lib.hid h
  clear h
  go_enter Try.func32, Try.ntmps32
  go_wp2_with fail
  refine (bring_is k 6 1 _ k0 k1 (by omega) (by omega) HK.out).mono ?_
  rintro x w1 ⟨rfl, rfl⟩
  go_wp2_with fail
  refine (size n _ n0 n1).mono ?_
  rintro x w1 ⟨rfl, rfl⟩
  go_wp2
  go_ret
  rw [HL.out]
  exact ⟨rfl, new_below _ _⟩
set_option maxHeartbeats 400000 in
set_option maxRecDepth 100000 in
theorem psize2 (k n : Int) (s : ByteArray) (w : World) (k0 : -9223372036854775808 ≤ k) (k1 : k ≤ 9223372036854775807) (n0 : 0 ≤ n) (n1 : n ≤ 18446744073709551615) (hs : s.size ≤ 9223372036854775807) (h : k % 6 = 2) :
    Calls Try.prog 32 #[.agg #[.int .i64 k, .int .u64 n, .string s]] w (SizeP w (pieceL k n s).length) := by
  have hc := clip40_size s
  have hz := wrap64_in n
  have hzr := zig_range (wrap64 n) hz.1 hz.2
  have he3 := Leb.enc_len (clip40 s).size
  have HL := Lib.hid (show (pieceL k n s).length = (Leb.enc (zigN (wrap64 n)).toNat).length by rw [show pieceL k n s = Leb.enc (zigN (wrap64 n)).toNat by unfold pieceL; rw [if_neg (by omega), if_neg (by omega), if_pos h]])
  have HK := Lib.hid h
  clear h
  go_enter Try.func32, Try.ntmps32
  go_wp2_with fail
  refine (bring_is k 6 2 _ k0 k1 (by omega) (by omega) HK.out).mono ?_
  rintro x w1 ⟨rfl, rfl⟩
  go_wp2_with fail
  refine (zig _ _ hz.1 hz.2).mono ?_
  rintro x w1 ⟨rfl, rfl⟩
  go_wp2_with fail
  refine (size _ _ hzr.1 hzr.2).mono ?_
  rintro x w1 ⟨rfl, rfl⟩
  go_wp2
  go_ret
  rw [HL.out]
  exact ⟨rfl, new_below _ _⟩
set_option maxHeartbeats 400000 in
set_option maxRecDepth 100000 in
theorem psize3 (k n : Int) (s : ByteArray) (w : World) (k0 : -9223372036854775808 ≤ k) (k1 : k ≤ 9223372036854775807) (n0 : 0 ≤ n) (n1 : n ≤ 18446744073709551615) (hs : s.size ≤ 9223372036854775807) (h : k % 6 = 3) :
    Calls Try.prog 32 #[.agg #[.int .i64 k, .int .u64 n, .string s]] w (SizeP w (pieceL k n s).length) := by
  have hc := clip40_size s
  have hz := wrap64_in n
  have hzr := zig_range (wrap64 n) hz.1 hz.2
  have he3 := Leb.enc_len (clip40 s).size
  have HL := Lib.hid (show (pieceL k n s).length = (Leb.enc (clip40 s).size).length + (clip40 s).size by rw [show pieceL k n s = Leb.enc (clip40 s).size ++ bl (clip40 s) by unfold pieceL; rw [if_neg (by omega), if_neg (by omega), if_neg (by omega), if_pos h]]; rw [List.length_append, bl_length])
  have HK := Lib.hid h
  clear h
  go_enter Try.func32, Try.ntmps32
  go_wp2_with fail
  refine (bring_is k 6 3 _ k0 k1 (by omega) (by omega) HK.out).mono ?_
  rintro x w1 ⟨rfl, rfl⟩
  go_wp2
  go_quiet (((first
    | (go_at_call 41; exact Calls.quiet_of_same ((clip s _ hs).mono (fun _ _ h => ⟨h.1, h.2.symm⟩)))
    | (go_at_call 65; exact Calls.quiet_of_same ((size ((clip40 s).size : Int) _ (by omega) (by omega)).mono (fun _ _ h => ⟨h.1, h.2.symm⟩))))))
  go_wp2
  go_ret
  rw [HL.out]
  refine ⟨congrArg (fun z : Int => Ending.returned (.int .i64 z)) ?_, below_new_drewN _ _ _⟩
  omega
set_option maxHeartbeats 400000 in
set_option maxRecDepth 100000 in
theorem psize4 (k n : Int) (s : ByteArray) (w : World) (k0 : -9223372036854775808 ≤ k) (k1 : k ≤ 9223372036854775807) (n0 : 0 ≤ n) (n1 : n ≤ 18446744073709551615) (hs : s.size ≤ 9223372036854775807) (h : k % 6 = 4) :
    Calls Try.prog 32 #[.agg #[.int .i64 k, .int .u64 n, .string s]] w (SizeP w (pieceL k n s).length) := by
  have hc := clip40_size s
  have hz := wrap64_in n
  have hzr := zig_range (wrap64 n) hz.1 hz.2
  have he3 := Leb.enc_len (clip40 s).size
  have HL := Lib.hid (show (pieceL k n s).length = (clip40 s).size by rw [show pieceL k n s = bl (clip40 s) by unfold pieceL; rw [if_neg (by omega), if_neg (by omega), if_neg (by omega), if_neg (by omega), if_pos h]]; rw [bl_length])
  have HK := Lib.hid h
  clear h
  go_enter Try.func32, Try.ntmps32
  go_wp2_with fail
  refine (bring_is k 6 4 _ k0 k1 (by omega) (by omega) HK.out).mono ?_
  rintro x w1 ⟨rfl, rfl⟩
  go_wp2_with fail
  refine (clip s _ hs).mono ?_
  rintro x w1 ⟨rfl, rfl⟩
  go_wp2
  go_ret
  rw [HL.out]
  exact ⟨rfl, new_below _ _⟩
set_option maxHeartbeats 400000 in
set_option maxRecDepth 100000 in
theorem psize5 (k n : Int) (s : ByteArray) (w : World) (k0 : -9223372036854775808 ≤ k) (k1 : k ≤ 9223372036854775807) (n0 : 0 ≤ n) (n1 : n ≤ 18446744073709551615) (hs : s.size ≤ 9223372036854775807) (h : k % 6 = 5) :
    Calls Try.prog 32 #[.agg #[.int .i64 k, .int .u64 n, .string s]] w (SizeP w (pieceL k n s).length) := by
  have hc := clip40_size s
  have hz := wrap64_in n
  have hzr := zig_range (wrap64 n) hz.1 hz.2
  have he3 := Leb.enc_len (clip40 s).size
  have HL := Lib.hid (show (pieceL k n s).length = 4 by rw [show pieceL k n s = wordL (n % 4294967296).toNat by unfold pieceL; rw [if_neg (by omega), if_neg (by omega), if_neg (by omega), if_neg (by omega), if_neg (by omega)]]; rfl)
  have HK := Lib.hid h
  clear h
  go_enter Try.func32, Try.ntmps32
  go_wp2_with fail
  refine (bring_is k 6 5 _ k0 k1 (by omega) (by omega) HK.out).mono ?_
  rintro x w1 ⟨rfl, rfl⟩
  go_wp2
  go_ret
  rw [HL.out]
  exact ⟨rfl, new_below _ _⟩
theorem psize (k n : Int) (s : ByteArray) (w : World) (k0 : -9223372036854775808 ≤ k) (k1 : k ≤ 9223372036854775807) (n0 : 0 ≤ n) (n1 : n ≤ 18446744073709551615) (hs : s.size ≤ 9223372036854775807) :
    Calls Try.prog 32 #[.agg #[.int .i64 k, .int .u64 n, .string s]] w (SizeP w (pieceL k n s).length) := by
  rcases six k with h | h | h | h | h | h
  · exact psize0 k n s w k0 k1 n0 n1 hs h
  · exact psize1 k n s w k0 k1 n0 n1 hs h
  · exact psize2 k n s w k0 k1 n0 n1 hs h
  · exact psize3 k n s w k0 k1 n0 n1 hs h
  · exact psize4 k n s w k0 k1 n0 n1 hs h
  · exact psize5 k n s w k0 k1 n0 n1 hs h
end Go.Proofs.Ytdijcgjgdfhapaa
