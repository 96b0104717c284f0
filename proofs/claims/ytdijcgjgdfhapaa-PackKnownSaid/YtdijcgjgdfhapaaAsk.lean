/- What is asked of a reader: plain, and the laws' 'asked' and 'answer'. -/
import Derived.Test.YtdijcgjgdfhapaaArgs
import Derived.Deep.RegionWith
namespace Go.Proofs.Ytdijcgjgdfhapaa
open Go.RowKit
set_option linter.unusedVariables false

/-- What is asked is answered so: a number, a text, how many bytes are taken, the error. -/
def askF (k n : Int) (r : List Nat) : Int × ByteArray × Nat × Nat :=
  if k % 8 = 0 then (((fByte r).1 : Int), ByteArray.empty, (fByte r).2.1, (fByte r).2.2)
  else if k % 8 = 1 then (((Leb.dec r).1 : Int), ByteArray.empty, (Leb.dec r).2.1, (Leb.dec r).2.2)
  else if k % 8 = 2 then (decI r % 18446744073709551616, ByteArray.empty, (Leb.dec r).2.1, (Leb.dec r).2.2)
  else if k % 8 = 3 then (0, str (fText n r).1, (fText n r).2.1, (fText n r).2.2)
  else if k % 8 = 4 then (0, str (fRaw n r).1, (fRaw n r).2.1, (fRaw n r).2.2)
  else if k % 8 = 5 then (((fWord r).1 : Int), ByteArray.empty, (fWord r).2.1, (fWord r).2.2)
  else if k % 8 = 6 then (0, ByteArray.empty, 0, (n % 7).toNat)
  else (0, ByteArray.empty, 0, 0)
theorem eight (k : Int) : k % 8 = 0 ∨ k % 8 = 1 ∨ k % 8 = 2 ∨ k % 8 = 3 ∨ k % 8 = 4 ∨ k % 8 = 5 ∨ k % 8 = 6 ∨ k % 8 = 7 := by omega
/-- How 'asked' leaves things. -/
def AskP (w : World) (R : Nat → Prop) (g : Nat) (l : List Nat) (p : Nat) (e z : Int) (s : ByteArray) (x : Ending) (w' : World) : Prop := x = .returned (.tuple #[.int .u64 z, .string s]) ∧ PR w' R g l p e ∧ Touch R w w'
def AskQ (w : World) (R : Nat → Prop) (g : Nat) (l : List Nat) (p : Nat) (e z : Int) (s : ByteArray) (x : Ending) (w' : World) : Prop := x = .returned (.tuple #[.int .u64 z, .string s]) ∧ QR w' R g l p e ∧ Touch R w w'
def AskN (w : World) (x : Ending) (w' : World) : Prop := x = .returned (.tuple #[.int .u64 0, .string ByteArray.empty]) ∧ Below w.heap.size w w'
theorem str_none : str [] = ByteArray.empty := by decide +kernel
theorem Touch.old {R : Nat → Prop} {w w1 w2 : World} (hb : Below w.heap.size w w1) (ht : Touch R w1 w2) : Touch R w w2 := (Touch.of_below (S := R) hb).trans ht (fun k hk => .inl hk)

theorem fByte_lt (r : List Nat) (hb : ∀ x ∈ r, x < 256) : (fByte r).1 ≤ 255 := by
  unfold fByte
  split
  · simp
  · rename_i h
    have := hb (r.getD 0 0) (by simp [List.getElem?_eq_getElem (show 0 < r.length by omega)])
    dsimp only
    omega
theorem fWord_lt (r : List Nat) (hb : ∀ x ∈ r, x < 256) : (fWord r).1 ≤ 4294967295 := by
  unfold fWord
  split
  · simp
  · rename_i h
    have := wAcc_lt r hb 4 (by omega)
    rw [wAcc_word] at this
    dsimp only
    omega
set_option maxHeartbeats 1000000 in
set_option maxRecDepth 100000 in
theorem asked0 (R : Nat → Prop) (g p : Nat) (l : List Nat) (k n : Int) (w : World) (hP : PR w R g l p 0) (k0 : -9223372036854775808 ≤ k) (k1 : k ≤ 9223372036854775807) (n0 : -9223372036854775808 ≤ n) (n1 : n ≤ 9223372036854775807) (h : k % 8 = 0) :
    Calls Try.prog 24 #[.pointer (some ⟨g, 0, none⟩), .agg #[.int .i64 k, .int .i64 n]] w (AskP w R g l (p + (askF k n (l.drop p)).2.2.1) ((askF k n (l.drop p)).2.2.2 : Int) (askF k n (l.drop p)).1 (askF k n (l.drop p)).2.1) := by
  have hlt := fByte_lt (l.drop p) (mem_drop hP.bytes)
  have H := Lib.hid hP
  have HG := Lib.hid hP.glt
  clear hP
  have HL := Lib.hid (show askF k n (l.drop p) = (((fByte (l.drop p)).1 : Int), ByteArray.empty, (fByte (l.drop p)).2.1, (fByte (l.drop p)).2.2) by unfold askF; rw [if_pos h])
  have HK := Lib.hid h
  clear h
  go_enter Try.func24, Try.ntmps24
  go_wp2_with fail
  refine (bring_is k 8 0 _ k0 k1 (by omega) (by omega) HK.out).mono ?_
  rintro x w1 ⟨rfl, rfl⟩
  go_wp2_with fail
  refine (p_byte R g p l _ (H.out.later (new_below _ _))).mono ?_
  rintro x w1 ⟨rfl, h1, ht⟩
  have H1 := Lib.hid h1
  have HT1 := Lib.hid (Touch.old (new_below _ _) ht)
  clear h1 ht
  go_wp2
  go_ret2
  rw [HL.out]
  exact ⟨rfl, H1.out, HT1.out⟩
set_option maxHeartbeats 1000000 in
set_option maxRecDepth 100000 in
theorem asked1 (R : Nat → Prop) (g p : Nat) (l : List Nat) (k n : Int) (w : World) (hP : PR w R g l p 0) (k0 : -9223372036854775808 ≤ k) (k1 : k ≤ 9223372036854775807) (n0 : -9223372036854775808 ≤ n) (n1 : n ≤ 9223372036854775807) (h : k % 8 = 1) :
    Calls Try.prog 24 #[.pointer (some ⟨g, 0, none⟩), .agg #[.int .i64 k, .int .i64 n]] w (AskP w R g l (p + (askF k n (l.drop p)).2.2.1) ((askF k n (l.drop p)).2.2.2 : Int) (askF k n (l.drop p)).1 (askF k n (l.drop p)).2.1) := by
  have H := Lib.hid hP
  have HG := Lib.hid hP.glt
  clear hP
  have HL := Lib.hid (show askF k n (l.drop p) = (((Leb.dec (l.drop p)).1 : Int), ByteArray.empty, (Leb.dec (l.drop p)).2.1, (Leb.dec (l.drop p)).2.2) by unfold askF; rw [if_neg (by omega), if_pos h])
  have HK := Lib.hid h
  clear h
  go_enter Try.func24, Try.ntmps24
  go_wp2_with fail
  refine (bring_is k 8 1 _ k0 k1 (by omega) (by omega) HK.out).mono ?_
  rintro x w1 ⟨rfl, rfl⟩
  go_wp2_with fail
  refine (p_var R g p l _ (H.out.later (new_below _ _))).mono ?_
  rintro x w1 ⟨rfl, h1, ht⟩
  have H1 := Lib.hid h1
  have HT1 := Lib.hid (Touch.old (new_below _ _) ht)
  clear h1 ht
  go_wp2
  go_ret2
  rw [HL.out]
  exact ⟨rfl, H1.out, HT1.out⟩
set_option maxHeartbeats 1000000 in
set_option maxRecDepth 100000 in
theorem asked2 (R : Nat → Prop) (g p : Nat) (l : List Nat) (k n : Int) (w : World) (hP : PR w R g l p 0) (k0 : -9223372036854775808 ≤ k) (k1 : k ≤ 9223372036854775807) (n0 : -9223372036854775808 ≤ n) (n1 : n ≤ 9223372036854775807) (h : k % 8 = 2) :
    Calls Try.prog 24 #[.pointer (some ⟨g, 0, none⟩), .agg #[.int .i64 k, .int .i64 n]] w (AskP w R g l (p + (askF k n (l.drop p)).2.2.1) ((askF k n (l.drop p)).2.2.2 : Int) (askF k n (l.drop p)).1 (askF k n (l.drop p)).2.1) := by
  have H := Lib.hid hP
  have HG := Lib.hid hP.glt
  clear hP
  have HL := Lib.hid (show askF k n (l.drop p) = (decI (l.drop p) % 18446744073709551616, ByteArray.empty, (Leb.dec (l.drop p)).2.1, (Leb.dec (l.drop p)).2.2) by unfold askF; rw [if_neg (by omega), if_neg (by omega), if_pos h])
  have HK := Lib.hid h
  clear h
  go_enter Try.func24, Try.ntmps24
  go_wp2_with fail
  refine (bring_is k 8 2 _ k0 k1 (by omega) (by omega) HK.out).mono ?_
  rintro x w1 ⟨rfl, rfl⟩
  go_wp2_with fail
  refine (p_int R g p l _ (H.out.later (new_below _ _))).mono ?_
  rintro x w1 ⟨rfl, h1, ht⟩
  have H1 := Lib.hid h1
  have HT1 := Lib.hid (Touch.old (new_below _ _) ht)
  clear h1 ht
  go_wp2
  go_ret2
  rw [HL.out]
  exact ⟨congrArg (fun z : Int => Ending.returned (.tuple #[.int .u64 z, .string ByteArray.empty])) (by first | rfl | (rw [IntKind.wrap_u64])), H1.out, HT1.out⟩
set_option maxHeartbeats 1000000 in
set_option maxRecDepth 100000 in
theorem asked3 (R : Nat → Prop) (g p : Nat) (l : List Nat) (k n : Int) (w : World) (hP : PR w R g l p 0) (k0 : -9223372036854775808 ≤ k) (k1 : k ≤ 9223372036854775807) (n0 : -9223372036854775808 ≤ n) (n1 : n ≤ 9223372036854775807) (h : k % 8 = 3) :
    Calls Try.prog 24 #[.pointer (some ⟨g, 0, none⟩), .agg #[.int .i64 k, .int .i64 n]] w (AskP w R g l (p + (askF k n (l.drop p)).2.2.1) ((askF k n (l.drop p)).2.2.2 : Int) (askF k n (l.drop p)).1 (askF k n (l.drop p)).2.1) := by
  have H := Lib.hid hP
  have HG := Lib.hid hP.glt
  clear hP
  have HL := Lib.hid (show askF k n (l.drop p) = (0, str (fText n (l.drop p)).1, (fText n (l.drop p)).2.1, (fText n (l.drop p)).2.2) by unfold askF; rw [if_neg (by omega), if_neg (by omega), if_neg (by omega), if_pos h])
  have HK := Lib.hid h
  clear h
  go_enter Try.func24, Try.ntmps24
  go_wp2_with fail
  refine (bring_is k 8 3 _ k0 k1 (by omega) (by omega) HK.out).mono ?_
  rintro x w1 ⟨rfl, rfl⟩
  go_wp2_with fail
  refine (p_text R g p l n _ (H.out.later (new_below _ _)) n0 n1).mono ?_
  rintro x w1 ⟨rfl, h1, ht⟩
  have H1 := Lib.hid h1
  have HT1 := Lib.hid (Touch.old (new_below _ _) ht)
  clear h1 ht
  go_wp2
  go_ret2
  rw [HL.out]
  exact ⟨rfl, H1.out, HT1.out⟩
set_option maxHeartbeats 1000000 in
set_option maxRecDepth 100000 in
theorem asked4 (R : Nat → Prop) (g p : Nat) (l : List Nat) (k n : Int) (w : World) (hP : PR w R g l p 0) (k0 : -9223372036854775808 ≤ k) (k1 : k ≤ 9223372036854775807) (n0 : -9223372036854775808 ≤ n) (n1 : n ≤ 9223372036854775807) (h : k % 8 = 4) :
    Calls Try.prog 24 #[.pointer (some ⟨g, 0, none⟩), .agg #[.int .i64 k, .int .i64 n]] w (AskP w R g l (p + (askF k n (l.drop p)).2.2.1) ((askF k n (l.drop p)).2.2.2 : Int) (askF k n (l.drop p)).1 (askF k n (l.drop p)).2.1) := by
  have H := Lib.hid hP
  have HG := Lib.hid hP.glt
  clear hP
  have HL := Lib.hid (show askF k n (l.drop p) = (0, str (fRaw n (l.drop p)).1, (fRaw n (l.drop p)).2.1, (fRaw n (l.drop p)).2.2) by unfold askF; rw [if_neg (by omega), if_neg (by omega), if_neg (by omega), if_neg (by omega), if_pos h])
  have HK := Lib.hid h
  clear h
  go_enter Try.func24, Try.ntmps24
  go_wp2_with fail
  refine (bring_is k 8 4 _ k0 k1 (by omega) (by omega) HK.out).mono ?_
  rintro x w1 ⟨rfl, rfl⟩
  go_wp2_with fail
  refine (p_raw R g p l n _ (H.out.later (new_below _ _)) n0 n1).mono ?_
  rintro x w1 ⟨v1, rfl, ho, h1, ht⟩
  have hlen : (fRaw n (l.drop p)).1.length ≤ 100000000 := by
    have hl := H.out.len
    unfold fRaw
    split
    · simp
    · split
      · simp
      · simp only [List.length_take, List.length_drop]; omega
  have hstr := run_str w1 _ v1 _ ho.rd
  have H1 := Lib.hid h1
  have HT1 := Lib.hid (Touch.old (new_below _ _) ht)
  have HO := Lib.hid ho
  clear h1 ht ho
  go_wp2_with fail
  refine (spoil v1 _ _ _ HO.out hlen).mono ?_
  rintro x w2 ⟨rfl, ht2⟩
  have hnew : ∀ i, v1.ownBlock = some i → w.heap.size ≤ i := fun i hi => by
    have := (HO.out.lt i hi).1
    simp at this
    omega
  have H2 := Lib.hid (H1.out.touch ht2 (fun i hi hi2 => by have := hnew i hi2; have := HG.out.2.2 i hi; omega))
  have HT2 := Lib.hid (HT1.out.trans ht2 (fun i hi => .inr (hnew i hi)))
  clear ht2 hnew hlen
  go_wp2
  go_ret2
  rw [HL.out]
  exact ⟨rfl, H2.out, HT2.out⟩
set_option maxHeartbeats 1000000 in
set_option maxRecDepth 100000 in
theorem asked5 (R : Nat → Prop) (g p : Nat) (l : List Nat) (k n : Int) (w : World) (hP : PR w R g l p 0) (k0 : -9223372036854775808 ≤ k) (k1 : k ≤ 9223372036854775807) (n0 : -9223372036854775808 ≤ n) (n1 : n ≤ 9223372036854775807) (h : k % 8 = 5) :
    Calls Try.prog 24 #[.pointer (some ⟨g, 0, none⟩), .agg #[.int .i64 k, .int .i64 n]] w (AskP w R g l (p + (askF k n (l.drop p)).2.2.1) ((askF k n (l.drop p)).2.2.2 : Int) (askF k n (l.drop p)).1 (askF k n (l.drop p)).2.1) := by
  have hlt := fWord_lt (l.drop p) (mem_drop hP.bytes)
  have H := Lib.hid hP
  have HG := Lib.hid hP.glt
  clear hP
  have HL := Lib.hid (show askF k n (l.drop p) = (((fWord (l.drop p)).1 : Int), ByteArray.empty, (fWord (l.drop p)).2.1, (fWord (l.drop p)).2.2) by unfold askF; rw [if_neg (by omega), if_neg (by omega), if_neg (by omega), if_neg (by omega), if_neg (by omega), if_pos h])
  have HK := Lib.hid h
  clear h
  go_enter Try.func24, Try.ntmps24
  go_wp2_with fail
  refine (bring_is k 8 5 _ k0 k1 (by omega) (by omega) HK.out).mono ?_
  rintro x w1 ⟨rfl, rfl⟩
  go_wp2_with fail
  refine (p_word R g p l _ (H.out.later (new_below _ _))).mono ?_
  rintro x w1 ⟨rfl, h1, ht⟩
  have H1 := Lib.hid h1
  have HT1 := Lib.hid (Touch.old (new_below _ _) ht)
  clear h1 ht
  go_wp2
  go_ret2
  rw [HL.out]
  exact ⟨rfl, H1.out, HT1.out⟩
set_option maxHeartbeats 1000000 in
set_option maxRecDepth 100000 in
theorem asked6 (R : Nat → Prop) (g p : Nat) (l : List Nat) (k n : Int) (w : World) (hP : PR w R g l p 0) (k0 : -9223372036854775808 ≤ k) (k1 : k ≤ 9223372036854775807) (n0 : -9223372036854775808 ≤ n) (n1 : n ≤ 9223372036854775807) (h : k % 8 = 6) :
    Calls Try.prog 24 #[.pointer (some ⟨g, 0, none⟩), .agg #[.int .i64 k, .int .i64 n]] w (AskP w R g l (p + (askF k n (l.drop p)).2.2.1) ((askF k n (l.drop p)).2.2.2 : Int) (askF k n (l.drop p)).1 (askF k n (l.drop p)).2.1) := by
  have H := Lib.hid hP
  have HG := Lib.hid hP.glt
  clear hP
  have HL := Lib.hid (show askF k n (l.drop p) = (0, ByteArray.empty, 0, (n % 7).toNat) by unfold askF; rw [if_neg (by omega), if_neg (by omega), if_neg (by omega), if_neg (by omega), if_neg (by omega), if_neg (by omega), if_pos h])
  have HK := Lib.hid h
  clear h
  go_enter Try.func24, Try.ntmps24
  go_wp2_with fail
  refine (bring_is k 8 6 _ k0 k1 (by omega) (by omega) HK.out).mono ?_
  rintro x w1 ⟨rfl, rfl⟩
  go_wp2_with fail
  refine (bring_is n 7 (n % 7) _ n0 n1 (by omega) (by omega) rfl).mono ?_
  rintro x w1 ⟨rfl, rfl⟩
  go_wp2_with fail
  refine (fail_live R g p l _ _ (H.out.later (new_below _ _))).mono ?_
  rintro x w1 ⟨rfl, h1, ht⟩
  have H1 := Lib.hid h1
  have HT1 := Lib.hid (Touch.old (new_below _ _) ht)
  clear h1 ht
  go_wp2
  go_ret2
  rw [HL.out]
  have e : (((n % 7).toNat : Nat) : Int) = n % 7 := by omega
  dsimp only
  rw [e]
  exact ⟨rfl, H1.out, HT1.out⟩
set_option maxHeartbeats 1000000 in
set_option maxRecDepth 100000 in
theorem asked7 (R : Nat → Prop) (g p : Nat) (l : List Nat) (k n : Int) (w : World) (hP : PR w R g l p 0) (k0 : -9223372036854775808 ≤ k) (k1 : k ≤ 9223372036854775807) (n0 : -9223372036854775808 ≤ n) (n1 : n ≤ 9223372036854775807) (h : k % 8 = 7) :
    Calls Try.prog 24 #[.pointer (some ⟨g, 0, none⟩), .agg #[.int .i64 k, .int .i64 n]] w (AskP w R g l (p + (askF k n (l.drop p)).2.2.1) ((askF k n (l.drop p)).2.2.2 : Int) (askF k n (l.drop p)).1 (askF k n (l.drop p)).2.1) := by
  have H := Lib.hid hP
  have HG := Lib.hid hP.glt
  clear hP
  have HL := Lib.hid (show askF k n (l.drop p) = (0, ByteArray.empty, 0, 0) by unfold askF; rw [if_neg (by omega), if_neg (by omega), if_neg (by omega), if_neg (by omega), if_neg (by omega), if_neg (by omega), if_neg (by omega)])
  have HK := Lib.hid h
  clear h
  go_enter Try.func24, Try.ntmps24
  go_wp2_with fail
  refine (bring_is k 8 7 _ k0 k1 (by omega) (by omega) HK.out).mono ?_
  rintro x w1 ⟨rfl, rfl⟩
  go_wp2
  go_ret2
  rw [HL.out]
  exact ⟨rfl, H.out.later (new_below _ _), Touch.of_below (new_below _ _)⟩
theorem asked (R : Nat → Prop) (g p : Nat) (l : List Nat) (k n : Int) (w : World) (hP : PR w R g l p 0) (k0 : -9223372036854775808 ≤ k) (k1 : k ≤ 9223372036854775807) (n0 : -9223372036854775808 ≤ n) (n1 : n ≤ 9223372036854775807) :
    Calls Try.prog 24 #[.pointer (some ⟨g, 0, none⟩), .agg #[.int .i64 k, .int .i64 n]] w (AskP w R g l (p + (askF k n (l.drop p)).2.2.1) ((askF k n (l.drop p)).2.2.2 : Int) (askF k n (l.drop p)).1 (askF k n (l.drop p)).2.1) := by
  rcases eight k with h | h | h | h | h | h | h | h
  · exact asked0 R g p l k n w hP k0 k1 n0 n1 h
  · exact asked1 R g p l k n w hP k0 k1 n0 n1 h
  · exact asked2 R g p l k n w hP k0 k1 n0 n1 h
  · exact asked3 R g p l k n w hP k0 k1 n0 n1 h
  · exact asked4 R g p l k n w hP k0 k1 n0 n1 h
  · exact asked5 R g p l k n w hP k0 k1 n0 n1 h
  · exact asked6 R g p l k n w hP k0 k1 n0 n1 h
  · exact asked7 R g p l k n w hP k0 k1 n0 n1 h
set_option maxHeartbeats 1000000 in
set_option maxRecDepth 100000 in
theorem asked_stuck0 (v : Value) (e k n : Int) (w : World) (hP : RE w v e) (hne : e ≠ 0) (k0 : -9223372036854775808 ≤ k) (k1 : k ≤ 9223372036854775807) (n0 : -9223372036854775808 ≤ n) (n1 : n ≤ 9223372036854775807) (h : k % 8 = 0) :
    Calls Try.prog 24 #[v, .agg #[.int .i64 k, .int .i64 n]] w (AskN w) := by
  have H := Lib.hid hP
  have HN := Lib.hid hne
  clear hP hne
  have HK := Lib.hid h
  clear h
  go_enter Try.func24, Try.ntmps24
  go_wp2_with fail
  refine (bring_is k 8 0 _ k0 k1 (by omega) (by omega) HK.out).mono ?_
  rintro x w1 ⟨rfl, rfl⟩
  go_wp2_with fail
  refine (p_byte_stuck v e _ (H.out.later (new_below _ _)) HN.out).mono ?_
  rintro x w1 ⟨rfl, hb⟩
  have HB := Lib.hid (up (new_below _ _) hb)
  clear hb
  go_wp2
  go_ret2
  exact ⟨rfl, HB.out⟩
set_option maxHeartbeats 1000000 in
set_option maxRecDepth 100000 in
theorem asked_stuck1 (v : Value) (e k n : Int) (w : World) (hP : RE w v e) (hne : e ≠ 0) (k0 : -9223372036854775808 ≤ k) (k1 : k ≤ 9223372036854775807) (n0 : -9223372036854775808 ≤ n) (n1 : n ≤ 9223372036854775807) (h : k % 8 = 1) :
    Calls Try.prog 24 #[v, .agg #[.int .i64 k, .int .i64 n]] w (AskN w) := by
  have H := Lib.hid hP
  have HN := Lib.hid hne
  clear hP hne
  have HK := Lib.hid h
  clear h
  go_enter Try.func24, Try.ntmps24
  go_wp2_with fail
  refine (bring_is k 8 1 _ k0 k1 (by omega) (by omega) HK.out).mono ?_
  rintro x w1 ⟨rfl, rfl⟩
  go_wp2_with fail
  refine (p_var_stuck v e _ (H.out.later (new_below _ _)) HN.out).mono ?_
  rintro x w1 ⟨rfl, hb⟩
  have HB := Lib.hid (up (new_below _ _) hb)
  clear hb
  go_wp2
  go_ret2
  exact ⟨rfl, HB.out⟩
set_option maxHeartbeats 1000000 in
set_option maxRecDepth 100000 in
theorem asked_stuck2 (v : Value) (e k n : Int) (w : World) (hP : RE w v e) (hne : e ≠ 0) (k0 : -9223372036854775808 ≤ k) (k1 : k ≤ 9223372036854775807) (n0 : -9223372036854775808 ≤ n) (n1 : n ≤ 9223372036854775807) (h : k % 8 = 2) :
    Calls Try.prog 24 #[v, .agg #[.int .i64 k, .int .i64 n]] w (AskN w) := by
  have H := Lib.hid hP
  have HN := Lib.hid hne
  clear hP hne
  have HK := Lib.hid h
  clear h
  go_enter Try.func24, Try.ntmps24
  go_wp2_with fail
  refine (bring_is k 8 2 _ k0 k1 (by omega) (by omega) HK.out).mono ?_
  rintro x w1 ⟨rfl, rfl⟩
  go_wp2_with fail
  refine (p_int_stuck v e _ (H.out.later (new_below _ _)) HN.out).mono ?_
  rintro x w1 ⟨rfl, hb⟩
  have HB := Lib.hid (up (new_below _ _) hb)
  clear hb
  go_wp2
  go_ret2
  exact ⟨rfl, HB.out⟩
set_option maxHeartbeats 1000000 in
set_option maxRecDepth 100000 in
theorem asked_stuck3 (v : Value) (e k n : Int) (w : World) (hP : RE w v e) (hne : e ≠ 0) (k0 : -9223372036854775808 ≤ k) (k1 : k ≤ 9223372036854775807) (n0 : -9223372036854775808 ≤ n) (n1 : n ≤ 9223372036854775807) (h : k % 8 = 3) :
    Calls Try.prog 24 #[v, .agg #[.int .i64 k, .int .i64 n]] w (AskN w) := by
  have H := Lib.hid hP
  have HN := Lib.hid hne
  clear hP hne
  have HK := Lib.hid h
  clear h
  go_enter Try.func24, Try.ntmps24
  go_wp2_with fail
  refine (bring_is k 8 3 _ k0 k1 (by omega) (by omega) HK.out).mono ?_
  rintro x w1 ⟨rfl, rfl⟩
  go_wp2_with fail
  refine (p_text_stuck v e n _ (H.out.later (new_below _ _)) HN.out).mono ?_
  rintro x w1 ⟨rfl, hb⟩
  have HB := Lib.hid (up (new_below _ _) hb)
  clear hb
  go_wp2
  go_ret2
  exact ⟨rfl, HB.out⟩
set_option maxHeartbeats 1000000 in
set_option maxRecDepth 100000 in
theorem asked_stuck4 (v : Value) (e k n : Int) (w : World) (hP : RE w v e) (hne : e ≠ 0) (k0 : -9223372036854775808 ≤ k) (k1 : k ≤ 9223372036854775807) (n0 : -9223372036854775808 ≤ n) (n1 : n ≤ 9223372036854775807) (h : k % 8 = 4) :
    Calls Try.prog 24 #[v, .agg #[.int .i64 k, .int .i64 n]] w (AskN w) := by
  have H := Lib.hid hP
  have HN := Lib.hid hne
  clear hP hne
  have HK := Lib.hid h
  clear h
  go_enter Try.func24, Try.ntmps24
  go_wp2_with fail
  refine (bring_is k 8 4 _ k0 k1 (by omega) (by omega) HK.out).mono ?_
  rintro x w1 ⟨rfl, rfl⟩
  go_wp2_with fail
  refine (p_raw_stuck v e n _ (H.out.later (new_below _ _)) HN.out).mono ?_
  rintro x w1 ⟨rfl, hb⟩
  have HB := Lib.hid (up (new_below _ _) hb)
  have hstr := run_str w1 _ _ _ (Rd.nil w1 w1.heap.size)
  rw [str_none] at hstr
  clear hb
  go_wp2_with fail
  refine (spoil _ [] 0 _ (Own.nil _ _) (by simp)).mono ?_
  rintro x w2 ⟨rfl, ht2⟩
  have HB2 := Lib.hid (up HB.out (ht2.below (Nat.le_refl _) (fun i hi => by simp [Value.ownBlock] at hi)))
  clear ht2
  go_wp2
  go_ret2
  exact ⟨rfl, HB2.out⟩
set_option maxHeartbeats 1000000 in
set_option maxRecDepth 100000 in
theorem asked_stuck5 (v : Value) (e k n : Int) (w : World) (hP : RE w v e) (hne : e ≠ 0) (k0 : -9223372036854775808 ≤ k) (k1 : k ≤ 9223372036854775807) (n0 : -9223372036854775808 ≤ n) (n1 : n ≤ 9223372036854775807) (h : k % 8 = 5) :
    Calls Try.prog 24 #[v, .agg #[.int .i64 k, .int .i64 n]] w (AskN w) := by
  have H := Lib.hid hP
  have HN := Lib.hid hne
  clear hP hne
  have HK := Lib.hid h
  clear h
  go_enter Try.func24, Try.ntmps24
  go_wp2_with fail
  refine (bring_is k 8 5 _ k0 k1 (by omega) (by omega) HK.out).mono ?_
  rintro x w1 ⟨rfl, rfl⟩
  go_wp2_with fail
  refine (p_word_stuck v e _ (H.out.later (new_below _ _)) HN.out).mono ?_
  rintro x w1 ⟨rfl, hb⟩
  have HB := Lib.hid (up (new_below _ _) hb)
  clear hb
  go_wp2
  go_ret2
  exact ⟨rfl, HB.out⟩
set_option maxHeartbeats 1000000 in
set_option maxRecDepth 100000 in
theorem asked_stuck6 (v : Value) (e k n : Int) (w : World) (hP : RE w v e) (hne : e ≠ 0) (k0 : -9223372036854775808 ≤ k) (k1 : k ≤ 9223372036854775807) (n0 : -9223372036854775808 ≤ n) (n1 : n ≤ 9223372036854775807) (h : k % 8 = 6) :
    Calls Try.prog 24 #[v, .agg #[.int .i64 k, .int .i64 n]] w (AskN w) := by
  have H := Lib.hid hP
  have HN := Lib.hid hne
  clear hP hne
  have HK := Lib.hid h
  clear h
  go_enter Try.func24, Try.ntmps24
  go_wp2_with fail
  refine (bring_is k 8 6 _ k0 k1 (by omega) (by omega) HK.out).mono ?_
  rintro x w1 ⟨rfl, rfl⟩
  go_wp2_with fail
  refine (bring_is n 7 (n % 7) _ n0 n1 (by omega) (by omega) rfl).mono ?_
  rintro x w1 ⟨rfl, rfl⟩
  go_wp2_with fail
  refine (fail_stuck v e _ _ (H.out.later (new_below _ _)) HN.out).mono ?_
  rintro x w1 ⟨rfl, rfl⟩
  go_wp2
  go_ret2
  exact ⟨rfl, new_below _ _⟩
set_option maxHeartbeats 1000000 in
set_option maxRecDepth 100000 in
theorem asked_stuck7 (v : Value) (e k n : Int) (w : World) (hP : RE w v e) (hne : e ≠ 0) (k0 : -9223372036854775808 ≤ k) (k1 : k ≤ 9223372036854775807) (n0 : -9223372036854775808 ≤ n) (n1 : n ≤ 9223372036854775807) (h : k % 8 = 7) :
    Calls Try.prog 24 #[v, .agg #[.int .i64 k, .int .i64 n]] w (AskN w) := by
  have H := Lib.hid hP
  have HN := Lib.hid hne
  clear hP hne
  have HK := Lib.hid h
  clear h
  go_enter Try.func24, Try.ntmps24
  go_wp2_with fail
  refine (bring_is k 8 7 _ k0 k1 (by omega) (by omega) HK.out).mono ?_
  rintro x w1 ⟨rfl, rfl⟩
  go_wp2
  go_ret2
  exact ⟨rfl, new_below _ _⟩
theorem asked_stuck (v : Value) (e k n : Int) (w : World) (hP : RE w v e) (hne : e ≠ 0) (k0 : -9223372036854775808 ≤ k) (k1 : k ≤ 9223372036854775807) (n0 : -9223372036854775808 ≤ n) (n1 : n ≤ 9223372036854775807) :
    Calls Try.prog 24 #[v, .agg #[.int .i64 k, .int .i64 n]] w (AskN w) := by
  rcases eight k with h | h | h | h | h | h | h | h
  · exact asked_stuck0 v e k n w hP hne k0 k1 n0 n1 h
  · exact asked_stuck1 v e k n w hP hne k0 k1 n0 n1 h
  · exact asked_stuck2 v e k n w hP hne k0 k1 n0 n1 h
  · exact asked_stuck3 v e k n w hP hne k0 k1 n0 n1 h
  · exact asked_stuck4 v e k n w hP hne k0 k1 n0 n1 h
  · exact asked_stuck5 v e k n w hP hne k0 k1 n0 n1 h
  · exact asked_stuck6 v e k n w hP hne k0 k1 n0 n1 h
  · exact asked_stuck7 v e k n w hP hne k0 k1 n0 n1 h
set_option maxHeartbeats 1000000 in
set_option maxRecDepth 100000 in
theorem answer0 (R : Nat → Prop) (g p : Nat) (l : List Nat) (k n : Int) (w : World) (hP : QR w R g l p 0) (k0 : -9223372036854775808 ≤ k) (k1 : k ≤ 9223372036854775807) (n0 : -9223372036854775808 ≤ n) (n1 : n ≤ 9223372036854775807) (h : k % 8 = 0) :
    Calls Try.prog 25 #[.pointer (some ⟨g, 0, none⟩), .agg #[.int .i64 k, .int .i64 n]] w (AskQ w R g l (p + (askF k n (l.drop p)).2.2.1) ((askF k n (l.drop p)).2.2.2 : Int) (askF k n (l.drop p)).1 (askF k n (l.drop p)).2.1) := by
  have hlt := fByte_lt (l.drop p) (mem_drop hP.bytes)
  have H := Lib.hid hP
  have HG := Lib.hid hP.glt
  clear hP
  have HL := Lib.hid (show askF k n (l.drop p) = (((fByte (l.drop p)).1 : Int), ByteArray.empty, (fByte (l.drop p)).2.1, (fByte (l.drop p)).2.2) by unfold askF; rw [if_pos h])
  have HK := Lib.hid h
  clear h
  go_enter Try.func25, Try.ntmps25
  go_wp2_with fail
  refine (bring_is k 8 0 _ k0 k1 (by omega) (by omega) HK.out).mono ?_
  rintro x w1 ⟨rfl, rfl⟩
  go_wp2_with fail
  refine (rbyte_live R g p l _ (H.out.later (new_below _ _))).mono ?_
  rintro x w1 ⟨rfl, h1, ht⟩
  have H1 := Lib.hid h1
  have HT1 := Lib.hid (Touch.old (new_below _ _) ht)
  clear h1 ht
  go_wp2
  go_ret2
  rw [HL.out]
  exact ⟨rfl, H1.out, HT1.out⟩
set_option maxHeartbeats 1000000 in
set_option maxRecDepth 100000 in
theorem answer1 (R : Nat → Prop) (g p : Nat) (l : List Nat) (k n : Int) (w : World) (hP : QR w R g l p 0) (k0 : -9223372036854775808 ≤ k) (k1 : k ≤ 9223372036854775807) (n0 : -9223372036854775808 ≤ n) (n1 : n ≤ 9223372036854775807) (h : k % 8 = 1) :
    Calls Try.prog 25 #[.pointer (some ⟨g, 0, none⟩), .agg #[.int .i64 k, .int .i64 n]] w (AskQ w R g l (p + (askF k n (l.drop p)).2.2.1) ((askF k n (l.drop p)).2.2.2 : Int) (askF k n (l.drop p)).1 (askF k n (l.drop p)).2.1) := by
  have H := Lib.hid hP
  have HG := Lib.hid hP.glt
  clear hP
  have HL := Lib.hid (show askF k n (l.drop p) = (((Leb.dec (l.drop p)).1 : Int), ByteArray.empty, (Leb.dec (l.drop p)).2.1, (Leb.dec (l.drop p)).2.2) by unfold askF; rw [if_neg (by omega), if_pos h])
  have HK := Lib.hid h
  clear h
  go_enter Try.func25, Try.ntmps25
  go_wp2_with fail
  refine (bring_is k 8 1 _ k0 k1 (by omega) (by omega) HK.out).mono ?_
  rintro x w1 ⟨rfl, rfl⟩
  go_wp2_with fail
  refine (rvar_live R g p l _ (H.out.later (new_below _ _))).mono ?_
  rintro x w1 ⟨rfl, h1, ht⟩
  have H1 := Lib.hid h1
  have HT1 := Lib.hid (Touch.old (new_below _ _) ht)
  clear h1 ht
  go_wp2
  go_ret2
  rw [HL.out]
  exact ⟨rfl, H1.out, HT1.out⟩
set_option maxHeartbeats 1000000 in
set_option maxRecDepth 100000 in
theorem answer2 (R : Nat → Prop) (g p : Nat) (l : List Nat) (k n : Int) (w : World) (hP : QR w R g l p 0) (k0 : -9223372036854775808 ≤ k) (k1 : k ≤ 9223372036854775807) (n0 : -9223372036854775808 ≤ n) (n1 : n ≤ 9223372036854775807) (h : k % 8 = 2) :
    Calls Try.prog 25 #[.pointer (some ⟨g, 0, none⟩), .agg #[.int .i64 k, .int .i64 n]] w (AskQ w R g l (p + (askF k n (l.drop p)).2.2.1) ((askF k n (l.drop p)).2.2.2 : Int) (askF k n (l.drop p)).1 (askF k n (l.drop p)).2.1) := by
  have H := Lib.hid hP
  have HG := Lib.hid hP.glt
  clear hP
  have HL := Lib.hid (show askF k n (l.drop p) = (decI (l.drop p) % 18446744073709551616, ByteArray.empty, (Leb.dec (l.drop p)).2.1, (Leb.dec (l.drop p)).2.2) by unfold askF; rw [if_neg (by omega), if_neg (by omega), if_pos h])
  have HK := Lib.hid h
  clear h
  go_enter Try.func25, Try.ntmps25
  go_wp2_with fail
  refine (bring_is k 8 2 _ k0 k1 (by omega) (by omega) HK.out).mono ?_
  rintro x w1 ⟨rfl, rfl⟩
  go_wp2_with fail
  refine (rint_live R g p l _ (H.out.later (new_below _ _))).mono ?_
  rintro x w1 ⟨rfl, h1, ht⟩
  have H1 := Lib.hid h1
  have HT1 := Lib.hid (Touch.old (new_below _ _) ht)
  clear h1 ht
  go_wp2
  go_ret2
  rw [HL.out]
  exact ⟨congrArg (fun z : Int => Ending.returned (.tuple #[.int .u64 z, .string ByteArray.empty])) (by first | rfl | (rw [IntKind.wrap_u64])), H1.out, HT1.out⟩
set_option maxHeartbeats 1000000 in
set_option maxRecDepth 100000 in
theorem answer3 (R : Nat → Prop) (g p : Nat) (l : List Nat) (k n : Int) (w : World) (hP : QR w R g l p 0) (k0 : -9223372036854775808 ≤ k) (k1 : k ≤ 9223372036854775807) (n0 : -9223372036854775808 ≤ n) (n1 : n ≤ 9223372036854775807) (h : k % 8 = 3) :
    Calls Try.prog 25 #[.pointer (some ⟨g, 0, none⟩), .agg #[.int .i64 k, .int .i64 n]] w (AskQ w R g l (p + (askF k n (l.drop p)).2.2.1) ((askF k n (l.drop p)).2.2.2 : Int) (askF k n (l.drop p)).1 (askF k n (l.drop p)).2.1) := by
  have H := Lib.hid hP
  have HG := Lib.hid hP.glt
  clear hP
  have HL := Lib.hid (show askF k n (l.drop p) = (0, str (fText n (l.drop p)).1, (fText n (l.drop p)).2.1, (fText n (l.drop p)).2.2) by unfold askF; rw [if_neg (by omega), if_neg (by omega), if_neg (by omega), if_pos h])
  have HK := Lib.hid h
  clear h
  go_enter Try.func25, Try.ntmps25
  go_wp2_with fail
  refine (bring_is k 8 3 _ k0 k1 (by omega) (by omega) HK.out).mono ?_
  rintro x w1 ⟨rfl, rfl⟩
  go_wp2_with fail
  refine (rtext_live R g p l n _ (H.out.later (new_below _ _)) n0 n1).mono ?_
  rintro x w1 ⟨rfl, h1, ht⟩
  have H1 := Lib.hid h1
  have HT1 := Lib.hid (Touch.old (new_below _ _) ht)
  clear h1 ht
  go_wp2
  go_ret2
  rw [HL.out]
  exact ⟨rfl, H1.out, HT1.out⟩
set_option maxHeartbeats 1000000 in
set_option maxRecDepth 100000 in
theorem answer4 (R : Nat → Prop) (g p : Nat) (l : List Nat) (k n : Int) (w : World) (hP : QR w R g l p 0) (k0 : -9223372036854775808 ≤ k) (k1 : k ≤ 9223372036854775807) (n0 : -9223372036854775808 ≤ n) (n1 : n ≤ 9223372036854775807) (h : k % 8 = 4) :
    Calls Try.prog 25 #[.pointer (some ⟨g, 0, none⟩), .agg #[.int .i64 k, .int .i64 n]] w (AskQ w R g l (p + (askF k n (l.drop p)).2.2.1) ((askF k n (l.drop p)).2.2.2 : Int) (askF k n (l.drop p)).1 (askF k n (l.drop p)).2.1) := by
  have H := Lib.hid hP
  have HG := Lib.hid hP.glt
  clear hP
  have HL := Lib.hid (show askF k n (l.drop p) = (0, str (fRaw n (l.drop p)).1, (fRaw n (l.drop p)).2.1, (fRaw n (l.drop p)).2.2) by unfold askF; rw [if_neg (by omega), if_neg (by omega), if_neg (by omega), if_neg (by omega), if_pos h])
  have HK := Lib.hid h
  clear h
  go_enter Try.func25, Try.ntmps25
  go_wp2_with fail
  refine (bring_is k 8 4 _ k0 k1 (by omega) (by omega) HK.out).mono ?_
  rintro x w1 ⟨rfl, rfl⟩
  go_wp2
  go_region_with
    (first
    | (go_at_call 61; refine (rraw_live R g p l n _ ((H.out.later (new_below _ _)).drewN 1)).mono ?_; rintro x w1 ⟨a1, c1, rfl, ho, h1, ht⟩; have hstr := run_str w1 _ _ _ ho.rd; have H1 := Lib.hid h1; have HT1 := Lib.hid (Touch.old (new_below _ _) ht.undrewN); clear h1 ht ho))
  all_goals
    go_wp2
    go_ret2
    rw [HL.out]
    exact ⟨rfl, H1.out, HT1.out⟩
set_option maxHeartbeats 1000000 in
set_option maxRecDepth 100000 in
theorem answer5 (R : Nat → Prop) (g p : Nat) (l : List Nat) (k n : Int) (w : World) (hP : QR w R g l p 0) (k0 : -9223372036854775808 ≤ k) (k1 : k ≤ 9223372036854775807) (n0 : -9223372036854775808 ≤ n) (n1 : n ≤ 9223372036854775807) (h : k % 8 = 5) :
    Calls Try.prog 25 #[.pointer (some ⟨g, 0, none⟩), .agg #[.int .i64 k, .int .i64 n]] w (AskQ w R g l (p + (askF k n (l.drop p)).2.2.1) ((askF k n (l.drop p)).2.2.2 : Int) (askF k n (l.drop p)).1 (askF k n (l.drop p)).2.1) := by
  have hlt := fWord_lt (l.drop p) (mem_drop hP.bytes)
  have H := Lib.hid hP
  have HG := Lib.hid hP.glt
  clear hP
  have HL := Lib.hid (show askF k n (l.drop p) = (((fWord (l.drop p)).1 : Int), ByteArray.empty, (fWord (l.drop p)).2.1, (fWord (l.drop p)).2.2) by unfold askF; rw [if_neg (by omega), if_neg (by omega), if_neg (by omega), if_neg (by omega), if_neg (by omega), if_pos h])
  have HK := Lib.hid h
  clear h
  go_enter Try.func25, Try.ntmps25
  go_wp2_with fail
  refine (bring_is k 8 5 _ k0 k1 (by omega) (by omega) HK.out).mono ?_
  rintro x w1 ⟨rfl, rfl⟩
  go_wp2_with fail
  refine (rword_live R g p l _ (H.out.later (new_below _ _))).mono ?_
  rintro x w1 ⟨rfl, h1, ht⟩
  have H1 := Lib.hid h1
  have HT1 := Lib.hid (Touch.old (new_below _ _) ht)
  clear h1 ht
  go_wp2
  go_ret2
  rw [HL.out]
  exact ⟨rfl, H1.out, HT1.out⟩
set_option maxHeartbeats 1000000 in
set_option maxRecDepth 100000 in
theorem answer6 (R : Nat → Prop) (g p : Nat) (l : List Nat) (k n : Int) (w : World) (hP : QR w R g l p 0) (k0 : -9223372036854775808 ≤ k) (k1 : k ≤ 9223372036854775807) (n0 : -9223372036854775808 ≤ n) (n1 : n ≤ 9223372036854775807) (h : k % 8 = 6) :
    Calls Try.prog 25 #[.pointer (some ⟨g, 0, none⟩), .agg #[.int .i64 k, .int .i64 n]] w (AskQ w R g l (p + (askF k n (l.drop p)).2.2.1) ((askF k n (l.drop p)).2.2.2 : Int) (askF k n (l.drop p)).1 (askF k n (l.drop p)).2.1) := by
  have H := Lib.hid hP
  have HG := Lib.hid hP.glt
  clear hP
  have HL := Lib.hid (show askF k n (l.drop p) = (0, ByteArray.empty, 0, (n % 7).toNat) by unfold askF; rw [if_neg (by omega), if_neg (by omega), if_neg (by omega), if_neg (by omega), if_neg (by omega), if_neg (by omega), if_pos h])
  have HK := Lib.hid h
  clear h
  go_enter Try.func25, Try.ntmps25
  go_wp2_with fail
  refine (bring_is k 8 6 _ k0 k1 (by omega) (by omega) HK.out).mono ?_
  rintro x w1 ⟨rfl, rfl⟩
  go_wp2_with fail
  refine (bring_is n 7 (n % 7) _ n0 n1 (by omega) (by omega) rfl).mono ?_
  rintro x w1 ⟨rfl, rfl⟩
  go_wp2_with fail
  refine (rfail_live R g p l _ _ (H.out.later (new_below _ _))).mono ?_
  rintro x w1 ⟨rfl, h1, ht⟩
  have H1 := Lib.hid h1
  have HT1 := Lib.hid (Touch.old (new_below _ _) ht)
  clear h1 ht
  go_wp2
  go_ret2
  rw [HL.out]
  have e : (((n % 7).toNat : Nat) : Int) = n % 7 := by omega
  dsimp only
  rw [e]
  exact ⟨rfl, H1.out, HT1.out⟩
set_option maxHeartbeats 1000000 in
set_option maxRecDepth 100000 in
theorem answer7 (R : Nat → Prop) (g p : Nat) (l : List Nat) (k n : Int) (w : World) (hP : QR w R g l p 0) (k0 : -9223372036854775808 ≤ k) (k1 : k ≤ 9223372036854775807) (n0 : -9223372036854775808 ≤ n) (n1 : n ≤ 9223372036854775807) (h : k % 8 = 7) :
    Calls Try.prog 25 #[.pointer (some ⟨g, 0, none⟩), .agg #[.int .i64 k, .int .i64 n]] w (AskQ w R g l (p + (askF k n (l.drop p)).2.2.1) ((askF k n (l.drop p)).2.2.2 : Int) (askF k n (l.drop p)).1 (askF k n (l.drop p)).2.1) := by
  have H := Lib.hid hP
  have HG := Lib.hid hP.glt
  clear hP
  have HL := Lib.hid (show askF k n (l.drop p) = (0, ByteArray.empty, 0, 0) by unfold askF; rw [if_neg (by omega), if_neg (by omega), if_neg (by omega), if_neg (by omega), if_neg (by omega), if_neg (by omega), if_neg (by omega)])
  have HK := Lib.hid h
  clear h
  go_enter Try.func25, Try.ntmps25
  go_wp2_with fail
  refine (bring_is k 8 7 _ k0 k1 (by omega) (by omega) HK.out).mono ?_
  rintro x w1 ⟨rfl, rfl⟩
  go_wp2
  go_ret2
  rw [HL.out]
  exact ⟨rfl, H.out.later (new_below _ _), Touch.of_below (new_below _ _)⟩
theorem answer (R : Nat → Prop) (g p : Nat) (l : List Nat) (k n : Int) (w : World) (hP : QR w R g l p 0) (k0 : -9223372036854775808 ≤ k) (k1 : k ≤ 9223372036854775807) (n0 : -9223372036854775808 ≤ n) (n1 : n ≤ 9223372036854775807) :
    Calls Try.prog 25 #[.pointer (some ⟨g, 0, none⟩), .agg #[.int .i64 k, .int .i64 n]] w (AskQ w R g l (p + (askF k n (l.drop p)).2.2.1) ((askF k n (l.drop p)).2.2.2 : Int) (askF k n (l.drop p)).1 (askF k n (l.drop p)).2.1) := by
  rcases eight k with h | h | h | h | h | h | h | h
  · exact answer0 R g p l k n w hP k0 k1 n0 n1 h
  · exact answer1 R g p l k n w hP k0 k1 n0 n1 h
  · exact answer2 R g p l k n w hP k0 k1 n0 n1 h
  · exact answer3 R g p l k n w hP k0 k1 n0 n1 h
  · exact answer4 R g p l k n w hP k0 k1 n0 n1 h
  · exact answer5 R g p l k n w hP k0 k1 n0 n1 h
  · exact answer6 R g p l k n w hP k0 k1 n0 n1 h
  · exact answer7 R g p l k n w hP k0 k1 n0 n1 h
set_option maxHeartbeats 1000000 in
set_option maxRecDepth 100000 in
theorem answer_stuck0 (R : Nat → Prop) (g p : Nat) (l : List Nat) (e k n : Int) (w : World) (hP : QR w R g l p e) (hne : e ≠ 0) (k0 : -9223372036854775808 ≤ k) (k1 : k ≤ 9223372036854775807) (n0 : -9223372036854775808 ≤ n) (n1 : n ≤ 9223372036854775807) (h : k % 8 = 0) :
    Calls Try.prog 25 #[.pointer (some ⟨g, 0, none⟩), .agg #[.int .i64 k, .int .i64 n]] w (AskQ w R g l p e 0 ByteArray.empty) := by
  have H := Lib.hid hP
  have HN := Lib.hid hne
  clear hP hne
  have HK := Lib.hid h
  clear h
  go_enter Try.func25, Try.ntmps25
  go_wp2_with fail
  refine (bring_is k 8 0 _ k0 k1 (by omega) (by omega) HK.out).mono ?_
  rintro x w1 ⟨rfl, rfl⟩
  go_wp2_with fail
  refine (rbyte_stuck R g p l e _ (H.out.later (new_below _ _)) HN.out).mono ?_
  rintro x w1 ⟨rfl, h1, ht⟩
  have H1 := Lib.hid h1
  have HT1 := Lib.hid (Touch.old (new_below _ _) ht)
  clear h1 ht
  go_wp2
  go_ret2
  exact ⟨rfl, H1.out, HT1.out⟩
set_option maxHeartbeats 1000000 in
set_option maxRecDepth 100000 in
theorem answer_stuck1 (R : Nat → Prop) (g p : Nat) (l : List Nat) (e k n : Int) (w : World) (hP : QR w R g l p e) (hne : e ≠ 0) (k0 : -9223372036854775808 ≤ k) (k1 : k ≤ 9223372036854775807) (n0 : -9223372036854775808 ≤ n) (n1 : n ≤ 9223372036854775807) (h : k % 8 = 1) :
    Calls Try.prog 25 #[.pointer (some ⟨g, 0, none⟩), .agg #[.int .i64 k, .int .i64 n]] w (AskQ w R g l p e 0 ByteArray.empty) := by
  have H := Lib.hid hP
  have HN := Lib.hid hne
  clear hP hne
  have HK := Lib.hid h
  clear h
  go_enter Try.func25, Try.ntmps25
  go_wp2_with fail
  refine (bring_is k 8 1 _ k0 k1 (by omega) (by omega) HK.out).mono ?_
  rintro x w1 ⟨rfl, rfl⟩
  go_wp2_with fail
  refine (rvar_stuck R g p l e _ (H.out.later (new_below _ _)) HN.out).mono ?_
  rintro x w1 ⟨rfl, h1, ht⟩
  have H1 := Lib.hid h1
  have HT1 := Lib.hid (Touch.old (new_below _ _) ht)
  clear h1 ht
  go_wp2
  go_ret2
  exact ⟨rfl, H1.out, HT1.out⟩
set_option maxHeartbeats 1000000 in
set_option maxRecDepth 100000 in
theorem answer_stuck2 (R : Nat → Prop) (g p : Nat) (l : List Nat) (e k n : Int) (w : World) (hP : QR w R g l p e) (hne : e ≠ 0) (k0 : -9223372036854775808 ≤ k) (k1 : k ≤ 9223372036854775807) (n0 : -9223372036854775808 ≤ n) (n1 : n ≤ 9223372036854775807) (h : k % 8 = 2) :
    Calls Try.prog 25 #[.pointer (some ⟨g, 0, none⟩), .agg #[.int .i64 k, .int .i64 n]] w (AskQ w R g l p e 0 ByteArray.empty) := by
  have H := Lib.hid hP
  have HN := Lib.hid hne
  clear hP hne
  have HK := Lib.hid h
  clear h
  go_enter Try.func25, Try.ntmps25
  go_wp2_with fail
  refine (bring_is k 8 2 _ k0 k1 (by omega) (by omega) HK.out).mono ?_
  rintro x w1 ⟨rfl, rfl⟩
  go_wp2_with fail
  refine (rint_stuck R g p l e _ (H.out.later (new_below _ _)) HN.out).mono ?_
  rintro x w1 ⟨rfl, h1, ht⟩
  have H1 := Lib.hid h1
  have HT1 := Lib.hid (Touch.old (new_below _ _) ht)
  clear h1 ht
  go_wp2
  go_ret2
  exact ⟨rfl, H1.out, HT1.out⟩
set_option maxHeartbeats 1000000 in
set_option maxRecDepth 100000 in
theorem answer_stuck3 (R : Nat → Prop) (g p : Nat) (l : List Nat) (e k n : Int) (w : World) (hP : QR w R g l p e) (hne : e ≠ 0) (k0 : -9223372036854775808 ≤ k) (k1 : k ≤ 9223372036854775807) (n0 : -9223372036854775808 ≤ n) (n1 : n ≤ 9223372036854775807) (h : k % 8 = 3) :
    Calls Try.prog 25 #[.pointer (some ⟨g, 0, none⟩), .agg #[.int .i64 k, .int .i64 n]] w (AskQ w R g l p e 0 ByteArray.empty) := by
  have H := Lib.hid hP
  have HN := Lib.hid hne
  clear hP hne
  have HK := Lib.hid h
  clear h
  go_enter Try.func25, Try.ntmps25
  go_wp2_with fail
  refine (bring_is k 8 3 _ k0 k1 (by omega) (by omega) HK.out).mono ?_
  rintro x w1 ⟨rfl, rfl⟩
  go_wp2_with fail
  refine (rtext_stuck R g p l e n _ (H.out.later (new_below _ _)) HN.out).mono ?_
  rintro x w1 ⟨rfl, h1, ht⟩
  have H1 := Lib.hid h1
  have HT1 := Lib.hid (Touch.old (new_below _ _) ht)
  clear h1 ht
  go_wp2
  go_ret2
  exact ⟨rfl, H1.out, HT1.out⟩
set_option maxHeartbeats 1000000 in
set_option maxRecDepth 100000 in
theorem answer_stuck4 (R : Nat → Prop) (g p : Nat) (l : List Nat) (e k n : Int) (w : World) (hP : QR w R g l p e) (hne : e ≠ 0) (k0 : -9223372036854775808 ≤ k) (k1 : k ≤ 9223372036854775807) (n0 : -9223372036854775808 ≤ n) (n1 : n ≤ 9223372036854775807) (h : k % 8 = 4) :
    Calls Try.prog 25 #[.pointer (some ⟨g, 0, none⟩), .agg #[.int .i64 k, .int .i64 n]] w (AskQ w R g l p e 0 ByteArray.empty) := by
  have H := Lib.hid hP
  have HN := Lib.hid hne
  clear hP hne
  have HK := Lib.hid h
  clear h
  go_enter Try.func25, Try.ntmps25
  go_wp2_with fail
  refine (bring_is k 8 4 _ k0 k1 (by omega) (by omega) HK.out).mono ?_
  rintro x w1 ⟨rfl, rfl⟩
  go_wp2
  go_region_with
    (first
    | (go_at_call 61; refine (rraw_stuck R g p l e n _ ((H.out.later (new_below _ _)).drewN 1) HN.out).mono ?_; rintro x w1 ⟨a1, c1, rfl, ho, h1, ht⟩; have hstr := run_str w1 _ (.slice a1 0 c1) [] ho.rd; rw [str_none] at hstr; have H1 := Lib.hid h1; have HT1 := Lib.hid (Touch.old (new_below _ _) ht.undrewN); clear h1 ht ho))
  all_goals
    go_wp2
    go_ret2
    exact ⟨rfl, H1.out, HT1.out⟩
set_option maxHeartbeats 1000000 in
set_option maxRecDepth 100000 in
theorem answer_stuck5 (R : Nat → Prop) (g p : Nat) (l : List Nat) (e k n : Int) (w : World) (hP : QR w R g l p e) (hne : e ≠ 0) (k0 : -9223372036854775808 ≤ k) (k1 : k ≤ 9223372036854775807) (n0 : -9223372036854775808 ≤ n) (n1 : n ≤ 9223372036854775807) (h : k % 8 = 5) :
    Calls Try.prog 25 #[.pointer (some ⟨g, 0, none⟩), .agg #[.int .i64 k, .int .i64 n]] w (AskQ w R g l p e 0 ByteArray.empty) := by
  have H := Lib.hid hP
  have HN := Lib.hid hne
  clear hP hne
  have HK := Lib.hid h
  clear h
  go_enter Try.func25, Try.ntmps25
  go_wp2_with fail
  refine (bring_is k 8 5 _ k0 k1 (by omega) (by omega) HK.out).mono ?_
  rintro x w1 ⟨rfl, rfl⟩
  go_wp2_with fail
  refine (rword_stuck R g p l e _ (H.out.later (new_below _ _)) HN.out).mono ?_
  rintro x w1 ⟨rfl, h1, ht⟩
  have H1 := Lib.hid h1
  have HT1 := Lib.hid (Touch.old (new_below _ _) ht)
  clear h1 ht
  go_wp2
  go_ret2
  exact ⟨rfl, H1.out, HT1.out⟩
set_option maxHeartbeats 1000000 in
set_option maxRecDepth 100000 in
theorem answer_stuck6 (R : Nat → Prop) (g p : Nat) (l : List Nat) (e k n : Int) (w : World) (hP : QR w R g l p e) (hne : e ≠ 0) (k0 : -9223372036854775808 ≤ k) (k1 : k ≤ 9223372036854775807) (n0 : -9223372036854775808 ≤ n) (n1 : n ≤ 9223372036854775807) (h : k % 8 = 6) :
    Calls Try.prog 25 #[.pointer (some ⟨g, 0, none⟩), .agg #[.int .i64 k, .int .i64 n]] w (AskQ w R g l p e 0 ByteArray.empty) := by
  have H := Lib.hid hP
  have HN := Lib.hid hne
  clear hP hne
  have HK := Lib.hid h
  clear h
  go_enter Try.func25, Try.ntmps25
  go_wp2_with fail
  refine (bring_is k 8 6 _ k0 k1 (by omega) (by omega) HK.out).mono ?_
  rintro x w1 ⟨rfl, rfl⟩
  go_wp2_with fail
  refine (bring_is n 7 (n % 7) _ n0 n1 (by omega) (by omega) rfl).mono ?_
  rintro x w1 ⟨rfl, rfl⟩
  go_wp2_with fail
  refine (rfail_stuck R g p l e _ _ (H.out.later (new_below _ _)) HN.out).mono ?_
  rintro x w1 ⟨rfl, h1, ht⟩
  have H1 := Lib.hid h1
  have HT1 := Lib.hid (Touch.old (new_below _ _) ht)
  clear h1 ht
  go_wp2
  go_ret2
  exact ⟨rfl, H1.out, HT1.out⟩
set_option maxHeartbeats 1000000 in
set_option maxRecDepth 100000 in
theorem answer_stuck7 (R : Nat → Prop) (g p : Nat) (l : List Nat) (e k n : Int) (w : World) (hP : QR w R g l p e) (hne : e ≠ 0) (k0 : -9223372036854775808 ≤ k) (k1 : k ≤ 9223372036854775807) (n0 : -9223372036854775808 ≤ n) (n1 : n ≤ 9223372036854775807) (h : k % 8 = 7) :
    Calls Try.prog 25 #[.pointer (some ⟨g, 0, none⟩), .agg #[.int .i64 k, .int .i64 n]] w (AskQ w R g l p e 0 ByteArray.empty) := by
  have H := Lib.hid hP
  have HN := Lib.hid hne
  clear hP hne
  have HK := Lib.hid h
  clear h
  go_enter Try.func25, Try.ntmps25
  go_wp2_with fail
  refine (bring_is k 8 7 _ k0 k1 (by omega) (by omega) HK.out).mono ?_
  rintro x w1 ⟨rfl, rfl⟩
  go_wp2
  go_ret2
  exact ⟨rfl, H.out.later (new_below _ _), Touch.of_below (new_below _ _)⟩
theorem answer_stuck (R : Nat → Prop) (g p : Nat) (l : List Nat) (e k n : Int) (w : World) (hP : QR w R g l p e) (hne : e ≠ 0) (k0 : -9223372036854775808 ≤ k) (k1 : k ≤ 9223372036854775807) (n0 : -9223372036854775808 ≤ n) (n1 : n ≤ 9223372036854775807) :
    Calls Try.prog 25 #[.pointer (some ⟨g, 0, none⟩), .agg #[.int .i64 k, .int .i64 n]] w (AskQ w R g l p e 0 ByteArray.empty) := by
  rcases eight k with h | h | h | h | h | h | h | h
  · exact answer_stuck0 R g p l e k n w hP hne k0 k1 n0 n1 h
  · exact answer_stuck1 R g p l e k n w hP hne k0 k1 n0 n1 h
  · exact answer_stuck2 R g p l e k n w hP hne k0 k1 n0 n1 h
  · exact answer_stuck3 R g p l e k n w hP hne k0 k1 n0 n1 h
  · exact answer_stuck4 R g p l e k n w hP hne k0 k1 n0 n1 h
  · exact answer_stuck5 R g p l e k n w hP hne k0 k1 n0 n1 h
  · exact answer_stuck6 R g p l e k n w hP hne k0 k1 n0 n1 h
  · exact answer_stuck7 R g p l e k n w hP hne k0 k1 n0 n1 h
end Go.Proofs.Ytdijcgjgdfhapaa
