/- Writers that are none: nothing is put. -/
import Derived.Test.YtdijcgjgdfhapaaAsk
namespace Go.Proofs.Ytdijcgjgdfhapaa
open Go.RowKit
set_option linter.unusedVariables false

/-- A writer that is none: nil, or a zero one. -/
def WN (w : World) (v : Value) : Prop := v = .pointer none ∨ ∃ g, v = .pointer (some ⟨g, 0, none⟩) ∧ Blk w g 69 [.bool false, .slice none 0 0, .int .i64 0, .int .i64 0]
theorem WN.later {w w' : World} {v : Value} (h : WN w v) (hb : Below w.heap.size w w') : WN w' v := by
  rcases h with h | ⟨g, rfl, h⟩
  · exact .inl h
  · exact .inr ⟨g, rfl, h.later hb⟩
def PutN (w : World) (x : Ending) (w' : World) : Prop := x = .returned undef ∧ Below w.heap.size w w'
set_option maxHeartbeats 400000 in
set_option maxRecDepth 100000 in
theorem nput (v u : Value) (w : World) (h : WN w v) : Calls Try.prog 70 #[v, u] w fun x w' => x = .returned undef ∧ w = w' := by
  rcases h with rfl | ⟨g, rfl, hb⟩
  · go_enter Try.func70, Try.ntmps70
    go_wp2
    first | go_end0 | refine bodyPost_ret (results_none rfl _ _ _) rfl ?_
    exact ⟨rfl, rfl⟩
  · have h0 := hb.cell 0
    have h2 := hb.cell 2
    simp at h0 h2
    go_enter Try.func70, Try.ntmps70
    go_wp2_with fail
    refine (trouble g false 0 1 _ h0 h2 rfl).mono ?_
    rintro y w1 ⟨rfl, rfl⟩
    go_wp2
    first | go_end0 | refine bodyPost_ret (results_none rfl _ _ _) rfl ?_
    exact ⟨rfl, rfl⟩
set_option maxHeartbeats 400000 in
set_option maxRecDepth 100000 in
theorem nLen (v : Value) (w : World) (h : WN w v) : Calls Try.prog 17 #[v] w fun x w' => x = .returned (.int .i64 0) ∧ w = w' := by
  rcases h with rfl | ⟨g, rfl, hb⟩
  · go_enter Try.func17, Try.ntmps17
    go_wp2
    go_ret
    exact ⟨rfl, rfl⟩
  · have h1 := hb.cell 1
    simp at h1
    go_enter Try.func17, Try.ntmps17
    go_wp2
    go_ret
    exact ⟨rfl, rfl⟩
set_option maxHeartbeats 400000 in
set_option maxRecDepth 100000 in
theorem nDone (v : Value) (w : World) (h : WN w v) : Calls Try.prog 15 #[v] w fun x w' => x = .returned (.tuple #[.slice none 0 0, .int .i64 1]) ∧ w = w' := by
  rcases h with rfl | ⟨g, rfl, hb⟩
  · go_enter Try.func15, Try.ntmps15
    go_wp2
    go_ret2
    exact ⟨rfl, rfl⟩
  · have h0 := hb.cell 0
    have h2 := hb.cell 2
    simp at h0 h2
    go_enter Try.func15, Try.ntmps15
    go_wp2_with fail
    refine (trouble g false 0 1 _ h0 h2 rfl).mono ?_
    rintro y w1 ⟨rfl, rfl⟩
    go_wp2
    go_ret2
    exact ⟨rfl, rfl⟩
set_option maxHeartbeats 400000 in
set_option maxRecDepth 100000 in
theorem nByte (v : Value) (c : Int) (w : World) (h : WN w v) : Calls Try.prog 37 #[v, .int .u8 c] w (PutN w) := by
  have H := Lib.hid h
  clear h
  go_enter Try.func37, Try.ntmps37
  go_wp2_with fail
  refine (nput v _ _ (H.out.later (new_below _ _))).mono ?_
  rintro y w1 ⟨rfl, rfl⟩
  go_wp2
  go_end0
  exact ⟨rfl, new_below _ _⟩
set_option maxHeartbeats 400000 in
set_option maxRecDepth 100000 in
theorem nVar (v : Value) (n : Int) (w : World) (h : WN w v) (h0 : 0 ≤ n) (h1 : n ≤ 18446744073709551615) : Calls Try.prog 38 #[v, .int .u64 n] w (PutN w) := by
  have H := Lib.hid h
  clear h
  go_enter Try.func38, Try.ntmps38
  go_wp2_with fail
  refine (put _ [] n _ (Rd.nil _ _) (by simp) h0 h1).mono ?_
  rintro x w1 ⟨r, rfl, ho, hb⟩
  go_wp2_with fail
  refine (nput v _ _ (H.out.later hb)).mono ?_
  rintro y w2 ⟨rfl, rfl⟩
  go_wp2
  go_end0
  exact ⟨rfl, hb⟩
set_option maxHeartbeats 400000 in
set_option maxRecDepth 100000 in
theorem nInt (v : Value) (n : Int) (w : World) (h : WN w v) (h0 : -9223372036854775808 ≤ n) (h1 : n ≤ 9223372036854775807) : Calls Try.prog 39 #[v, .int .i64 n] w (PutN w) := by
  have H := Lib.hid h
  clear h
  go_enter Try.func39, Try.ntmps39
  go_wp2_with fail
  refine (putInt _ [] n _ (Rd.nil _ _) (by simp) h0 h1).mono ?_
  rintro x w1 ⟨r, rfl, ho, hb⟩
  go_wp2_with fail
  refine (nput v _ _ (H.out.later hb)).mono ?_
  rintro y w2 ⟨rfl, rfl⟩
  go_wp2
  go_end0
  exact ⟨rfl, hb⟩
set_option maxHeartbeats 400000 in
set_option maxRecDepth 100000 in
theorem nText (v : Value) (s : ByteArray) (w : World) (h : WN w v) (hs : s.size ≤ 100000) : Calls Try.prog 40 #[v, .string s] w (PutN w) := by
  have H := Lib.hid h
  have he := Leb.enc_len s.size
  clear h
  go_enter Try.func40, Try.ntmps40
  go_wp2_with fail
  refine (put _ [] (s.size : Int) _ (Rd.nil _ _) (by simp) (by omega) (by omega)).mono ?_
  rintro x w1 ⟨r, rfl, ho, hb⟩
  rw [List.nil_append, Int.toNat_natCast] at ho
  go_wp2_with (at_builtin
               refine wpList_app_str rfl (.tmp 8) (.tmp 9) rfl w.heap.size r _ rfl ho s rfl (by omega) hb.size ?_
               intro v1 w2 ho1 hb1)
  have hb2 := hb.trans hb1
  refine (nput v _ _ (H.out.later hb2)).mono ?_
  rintro y w3 ⟨rfl, rfl⟩
  go_wp2
  go_end0
  exact ⟨rfl, hb2⟩
set_option maxHeartbeats 400000 in
set_option maxRecDepth 100000 in
theorem nRaw (v u : Value) (w : World) (h : WN w v) : Calls Try.prog 42 #[v, u] w (PutN w) := by
  have H := Lib.hid h
  clear h
  go_enter Try.func42, Try.ntmps42
  go_wp2_with fail
  refine (nput v _ _ H.out).mono ?_
  rintro y w1 ⟨rfl, rfl⟩
  go_wp2
  go_end0
  exact ⟨rfl, Below.refl _ _⟩
set_option maxHeartbeats 1000000 in
set_option maxRecDepth 100000 in
theorem nWord (v : Value) (z : Int) (w : World) (h : WN w v) (h0 : 0 ≤ z) (h1 : z ≤ 4294967295) : Calls Try.prog 43 #[v, .int .u32 z] w (PutN w) := by
  obtain ⟨n, rfl⟩ := Int.eq_ofNat_of_zero_le h0
  have H := Lib.hid h
  clear h
  go_enter Try.func43, Try.ntmps43
  go_wp2
  go_loopw [5, 6] (fun _ i wr => ∃ k : Nat, k ≤ 4 ∧ i = .int .i64 k ∧ Blk wr w.heap.size 93 (vals (wfill n k)) ∧ Below w.heap.size w wr) (fun _ i _ => 4 - (intOf i).toNat)
  case atStart => exact ⟨0, by omega, rfl, Blk.new w _ _, new_below _ _⟩
  case round =>
    obtain ⟨k, hk, rfl, hB, hb⟩ := hrel
    by_cases hlt : k < 4
    · have hcell := hB.cell k
      have hfz := hB.frozen k
      rw [show (vals (wfill n k))[k]? = some (.int .u8 ((wfill n k).getD k 0 : Nat)) by
        have : k < (wfill n k).length := by rw [wfill_length]; exact hlt
        simp [vals, List.getElem?_eq_getElem this]] at hcell
      generalize (wfill n k).getD k 0 = old at hcell
      go_wp2
      go_roundw
      case rel =>
        refine ⟨k + 1, by omega, by go_num, ?_, hb.setCell (Nat.le_refl _) _⟩
        have h2 := hB.put k (.int .u8 ((n / 256 ^ k % 256 : Nat) : Int))
        rw [vals_set, wfill_step n k hlt, ← wbyte_eq] at h2
        exact h2
      case measure => simp [intOf]; omega
    · obtain rfl : k = 4 := by omega
      go_wp2_with fail
      refine (nput v _ _ (H.out.later hb)).mono ?_
      rintro x w1 ⟨rfl, rfl⟩
      go_wp2
      go_end0
      exact ⟨rfl, hb⟩

set_option maxHeartbeats 400000 in
set_option maxRecDepth 100000 in
theorem nPiece0 (v : Value) (k n : Int) (s : ByteArray) (w : World) (h : WN w v) (k0 : -9223372036854775808 ≤ k) (k1 : k ≤ 9223372036854775807) (n0 : 0 ≤ n) (n1 : n ≤ 18446744073709551615) (hs : s.size ≤ 9223372036854775807) (hk : k % 6 = 0) :
    Calls Try.prog 13 #[v, .agg #[.int .i64 k, .int .u64 n, .string s]] w (PutN w) := by
  have H := Lib.hid h
  have hc := clip40_size s
  have hz := wrap64_in n
  have HK := Lib.hid hk
  clear h hk
  go_enter Try.func13, Try.ntmps13
  go_wp2_with fail
  refine (bring_is k 6 0 _ k0 k1 (by omega) (by omega) HK.out).mono ?_
  rintro x w1 ⟨rfl, rfl⟩
  go_wp2_with fail
  refine (nByte v _ _ (H.out.later (new_below _ _))).mono ?_
  rintro x w1 ⟨rfl, hb⟩
  have HB := Lib.hid (up (new_below _ _) hb)
  clear hb
  go_wp2
  go_end0
  exact ⟨rfl, HB.out⟩
set_option maxHeartbeats 400000 in
set_option maxRecDepth 100000 in
theorem nPiece1 (v : Value) (k n : Int) (s : ByteArray) (w : World) (h : WN w v) (k0 : -9223372036854775808 ≤ k) (k1 : k ≤ 9223372036854775807) (n0 : 0 ≤ n) (n1 : n ≤ 18446744073709551615) (hs : s.size ≤ 9223372036854775807) (hk : k % 6 = 1) :
    Calls Try.prog 13 #[v, .agg #[.int .i64 k, .int .u64 n, .string s]] w (PutN w) := by
  have H := Lib.hid h
  have hc := clip40_size s
  have hz := wrap64_in n
  have HK := Lib.hid hk
  clear h hk
  go_enter Try.func13, Try.ntmps13
  go_wp2_with fail
  refine (bring_is k 6 1 _ k0 k1 (by omega) (by omega) HK.out).mono ?_
  rintro x w1 ⟨rfl, rfl⟩
  go_wp2_with fail
  refine (nVar v _ _ (H.out.later (new_below _ _)) n0 n1).mono ?_
  rintro x w1 ⟨rfl, hb⟩
  have HB := Lib.hid (up (new_below _ _) hb)
  clear hb
  go_wp2
  go_end0
  exact ⟨rfl, HB.out⟩
set_option maxHeartbeats 400000 in
set_option maxRecDepth 100000 in
theorem nPiece2 (v : Value) (k n : Int) (s : ByteArray) (w : World) (h : WN w v) (k0 : -9223372036854775808 ≤ k) (k1 : k ≤ 9223372036854775807) (n0 : 0 ≤ n) (n1 : n ≤ 18446744073709551615) (hs : s.size ≤ 9223372036854775807) (hk : k % 6 = 2) :
    Calls Try.prog 13 #[v, .agg #[.int .i64 k, .int .u64 n, .string s]] w (PutN w) := by
  have H := Lib.hid h
  have hc := clip40_size s
  have hz := wrap64_in n
  have HK := Lib.hid hk
  clear h hk
  go_enter Try.func13, Try.ntmps13
  go_wp2_with fail
  refine (bring_is k 6 2 _ k0 k1 (by omega) (by omega) HK.out).mono ?_
  rintro x w1 ⟨rfl, rfl⟩
  go_wp2_with fail
  refine (nInt v _ _ (H.out.later (new_below _ _)) hz.1 hz.2).mono ?_
  rintro x w1 ⟨rfl, hb⟩
  have HB := Lib.hid (up (new_below _ _) hb)
  clear hb
  go_wp2
  go_end0
  exact ⟨rfl, HB.out⟩
set_option maxHeartbeats 400000 in
set_option maxRecDepth 100000 in
theorem nPiece3 (v : Value) (k n : Int) (s : ByteArray) (w : World) (h : WN w v) (k0 : -9223372036854775808 ≤ k) (k1 : k ≤ 9223372036854775807) (n0 : 0 ≤ n) (n1 : n ≤ 18446744073709551615) (hs : s.size ≤ 9223372036854775807) (hk : k % 6 = 3) :
    Calls Try.prog 13 #[v, .agg #[.int .i64 k, .int .u64 n, .string s]] w (PutN w) := by
  have H := Lib.hid h
  have hc := clip40_size s
  have hz := wrap64_in n
  have HK := Lib.hid hk
  clear h hk
  go_enter Try.func13, Try.ntmps13
  go_wp2_with fail
  refine (bring_is k 6 3 _ k0 k1 (by omega) (by omega) HK.out).mono ?_
  rintro x w1 ⟨rfl, rfl⟩
  go_wp2_with fail
  refine (clip s _ hs).mono ?_
  rintro x w1 ⟨rfl, rfl⟩
  go_wp2_with fail
  refine (nText v _ _ (H.out.later (new_below _ _)) (by omega)).mono ?_
  rintro x w1 ⟨rfl, hb⟩
  have HB := Lib.hid (up (new_below _ _) hb)
  clear hb
  go_wp2
  go_end0
  exact ⟨rfl, HB.out⟩
set_option maxHeartbeats 400000 in
set_option maxRecDepth 100000 in
theorem nPiece4 (v : Value) (k n : Int) (s : ByteArray) (w : World) (h : WN w v) (k0 : -9223372036854775808 ≤ k) (k1 : k ≤ 9223372036854775807) (n0 : 0 ≤ n) (n1 : n ≤ 18446744073709551615) (hs : s.size ≤ 9223372036854775807) (hk : k % 6 = 4) :
    Calls Try.prog 13 #[v, .agg #[.int .i64 k, .int .u64 n, .string s]] w (PutN w) := by
  have H := Lib.hid h
  have hc := clip40_size s
  have hz := wrap64_in n
  have HK := Lib.hid hk
  clear h hk
  have hcv := Lib.run_convert_string_bytes (P := Try.prog) (w.alloc (.cells #[.int .i64 k, .int .u64 n, .string s] 30)) 9 32 5 (clip40 s) Try.underlying9 Try.underlying32 Try.underlying5
  go_enter Try.func13, Try.ntmps13
  go_wp2_with fail
  refine (bring_is k 6 4 _ k0 k1 (by omega) (by omega) HK.out).mono ?_
  rintro x w1 ⟨rfl, rfl⟩
  go_wp2_with fail
  refine (clip s _ hs).mono ?_
  rintro x w1 ⟨rfl, rfl⟩
  go_wp2_with fail
  refine (nRaw v _ _ (H.out.later (up (new_below w _) (bytes_below _ _)))).mono ?_
  rintro x w1 ⟨rfl, hb⟩
  have HB := Lib.hid (up (up (new_below w _) (bytes_below _ _)) hb)
  clear hb
  go_wp2
  go_end0
  exact ⟨rfl, HB.out⟩
set_option maxHeartbeats 400000 in
set_option maxRecDepth 100000 in
theorem nPiece5 (v : Value) (k n : Int) (s : ByteArray) (w : World) (h : WN w v) (k0 : -9223372036854775808 ≤ k) (k1 : k ≤ 9223372036854775807) (n0 : 0 ≤ n) (n1 : n ≤ 18446744073709551615) (hs : s.size ≤ 9223372036854775807) (hk : k % 6 = 5) :
    Calls Try.prog 13 #[v, .agg #[.int .i64 k, .int .u64 n, .string s]] w (PutN w) := by
  have H := Lib.hid h
  have hc := clip40_size s
  have hz := wrap64_in n
  have HK := Lib.hid hk
  clear h hk
  go_enter Try.func13, Try.ntmps13
  go_wp2_with fail
  refine (bring_is k 6 5 _ k0 k1 (by omega) (by omega) HK.out).mono ?_
  rintro x w1 ⟨rfl, rfl⟩
  go_wp2_with fail
  refine (nWord v _ _ (H.out.later (new_below _ _)) (by omega) (by omega)).mono ?_
  rintro x w1 ⟨rfl, hb⟩
  have HB := Lib.hid (up (new_below _ _) hb)
  clear hb
  go_wp2
  go_end0
  exact ⟨rfl, HB.out⟩
theorem nPiece (v : Value) (k n : Int) (s : ByteArray) (w : World) (h : WN w v) (k0 : -9223372036854775808 ≤ k) (k1 : k ≤ 9223372036854775807) (n0 : 0 ≤ n) (n1 : n ≤ 18446744073709551615) (hs : s.size ≤ 9223372036854775807) :
    Calls Try.prog 13 #[v, .agg #[.int .i64 k, .int .u64 n, .string s]] w (PutN w) := by
  rcases six k with hk | hk | hk | hk | hk | hk
  · exact nPiece0 v k n s w h k0 k1 n0 n1 hs hk
  · exact nPiece1 v k n s w h k0 k1 n0 n1 hs hk
  · exact nPiece2 v k n s w h k0 k1 n0 n1 hs hk
  · exact nPiece3 v k n s w h k0 k1 n0 n1 hs hk
  · exact nPiece4 v k n s w h k0 k1 n0 n1 hs hk
  · exact nPiece5 v k n s w h k0 k1 n0 n1 hs hk
end Go.Proofs.Ytdijcgjgdfhapaa
