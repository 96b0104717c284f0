/- What is found at the beginning of bytes: plain functions, and the program's function literals. -/
import Derived.Test.YtdijcgjgdfhapaaEnds
import Derived.Deep.RegionHeld3
namespace Go.Proofs.Ytdijcgjgdfhapaa
open Go.RowKit
set_option linter.unusedVariables false

def fByte (r : List Nat) : Nat × Nat × Nat := if r.length = 0 then (0, 0, 3) else (r.getD 0 0, 1, 0)
def wordN (r : List Nat) : Nat := r.getD 0 0 + 256 * r.getD 1 0 + 65536 * r.getD 2 0 + 16777216 * r.getD 3 0
def fWord (r : List Nat) : Nat × Nat × Nat := if r.length < 4 then (0, 0, 3) else (wordN r, 4, 0)
def fRaw (n : Int) (r : List Nat) : List Nat × Nat × Nat := if n < 0 then ([], 0, 6) else if (r.length : Int) < n then ([], 0, 3) else (r.take n.toNat, n.toNat, 0)
def fText (most : Int) (r : List Nat) : List Nat × Nat × Nat :=
  if (Leb.dec r).2.2 ≠ 0 then ([], 0, (Leb.dec r).2.2) else if most < 0 ∨ most < ((Leb.dec r).1 : Int) then ([], 0, 5)
  else if r.length - (Leb.dec r).2.1 < (Leb.dec r).1 then ([], 0, 3) else ((r.take ((Leb.dec r).2.1 + (Leb.dec r).1)).drop (Leb.dec r).2.1, (Leb.dec r).2.1 + (Leb.dec r).1, 0)
theorem ret3f {z : Value} {b b' c c' : Int} (h2 : b = b') (h3 : c = c') : Ending.returned (.tuple #[z, .int .i64 b, .int .i64 c]) = .returned (.tuple #[z, .int .i64 b', .int .i64 c']) := by rw [h2, h3]

set_option maxHeartbeats 400000 in
theorem find_byte (u : Value) (r : List Nat) (w : World) (h : Rd w w.heap.size u r) :
    Calls Try.prog 76 #[u] w fun x w' => x = .returned (.tuple #[.int .u8 ((fByte r).1 : Int), .int .i64 ((fByte r).2.1 : Int), .int .i64 ((fByte r).2.2 : Int)]) ∧ w = w' := by
  obtain ⟨a, c, rfl, h1, h2, -, hb, hcell⟩ := h
  unfold maxLen at h2
  by_cases h0 : r.length = 0
  · have HF := Lib.hid (show fByte r = (0, 0, 3) by unfold fByte; rw [if_pos h0])
    obtain rfl := List.eq_nil_of_length_eq_zero h0
    go_enter Try.func76, Try.ntmps76
    go_wp2
    go_ret3
    rw [HF.out]
    exact ⟨rfl, rfl⟩
  · have HF := Lib.hid (show fByte r = (r.getD 0 0, 1, 0) by unfold fByte; rw [if_neg h0])
    obtain ⟨b, off, rfl, hlt, hc⟩ := hcell (by omega)
    have hc0 := hc 0 (by omega)
    rw [Nat.add_zero] at hc0
    have hpos : 0 < r.length := by omega
    have hb0 : ((r.length : Int) == 0) = false := by simpa using h0
    generalize r.getD 0 0 = y at *
    generalize r.length = n at *
    clear hc h0
    go_enter Try.func76, Try.ntmps76
    go_wp2
    go_ret3
    rw [HF.out]
    exact ⟨rfl, rfl⟩
set_option maxHeartbeats 400000 in
theorem find_var (u : Value) (r : List Nat) (w : World) (h : Rd w w.heap.size u r) :
    Calls Try.prog 81 #[u] w fun x w' => x = .returned (.tuple #[.int .u64 ((Leb.dec r).1 : Int), .int .i64 ((Leb.dec r).2.1 : Int), .int .i64 ((Leb.dec r).2.2 : Int)]) ∧ w = w' := by
  go_enter Try.func81, Try.ntmps81
  go_wp2_with fail
  refine (get u r _ h).mono ?_
  rintro x w1 ⟨rfl, rfl⟩
  go_wp2
  go_ret3
  exact ⟨rfl, rfl⟩
set_option maxHeartbeats 400000 in
theorem find_int (u : Value) (r : List Nat) (w : World) (h : Rd w w.heap.size u r) :
    Calls Try.prog 83 #[u] w fun x w' => x = .returned (.tuple #[.int .i64 (decI r), .int .i64 ((Leb.dec r).2.1 : Int), .int .i64 ((Leb.dec r).2.2 : Int)]) ∧ w = w' := by
  go_enter Try.func83, Try.ntmps83
  go_wp2_with fail
  refine (getInt u r _ h).mono ?_
  rintro x w1 ⟨rfl, rfl⟩
  go_wp2
  go_ret3
  exact ⟨rfl, rfl⟩
/-- The first k bytes of a word. -/
def wAcc (r : List Nat) : Nat → Nat
  | 0 => 0
  | k + 1 => wAcc r k + r.getD k 0 * 256 ^ k
theorem wAcc_lt (r : List Nat) (hb : ∀ x ∈ r, x < 256) : ∀ k, k ≤ r.length → wAcc r k < 256 ^ k
  | 0, _ => by simp [wAcc]
  | k + 1, h => by
    have h1 := wAcc_lt r hb k (by omega)
    have h2 : r.getD k 0 < 256 := hb _ (by simp [List.getElem?_eq_getElem (show k < r.length by omega)])
    have h3 : r.getD k 0 * 256 ^ k ≤ 255 * 256 ^ k := Nat.mul_le_mul (by omega) (Nat.le_refl _)
    rw [wAcc, Nat.pow_succ]
    omega
theorem wAcc_word (r : List Nat) : wAcc r 4 = wordN r := by
  simp only [wAcc, wordN]
  omega
theorem word_step (acc y k : Nat) (hk : k < 4) (hacc : acc < 256 ^ k) (hy : y < 256) : bits BinOp.or IntKind.u32 (acc : Int) (IntKind.u32.wrap ((y : Int) * 2 ^ (8 * k))) = ((acc + y * 256 ^ k : Nat) : Int) := by
  have hp : (2 : Nat) ^ (8 * k) = 256 ^ k := by rw [Nat.pow_mul]
  have h3 : y * 256 ^ k < 4294967296 := by
    have h1 : 256 ^ k ≤ 256 ^ 3 := Nat.pow_le_pow_right (by omega) (by omega)
    have h2 : y * 256 ^ k ≤ 255 * 256 ^ 3 := Nat.mul_le_mul (by omega) h1
    omega
  have h4 : acc < 4294967296 := by
    have h1 : 256 ^ k ≤ 256 ^ 3 := Nat.pow_le_pow_right (by omega) (by omega)
    omega
  rw [IntKind.wrap_u32, show (y : Int) * 2 ^ (8 * k) = ((y * 256 ^ k : Nat) : Int) by rw [← hp]; simp, show ((y * 256 ^ k : Nat) : Int) % 4294967296 = ((y * 256 ^ k : Nat) : Int) by omega,
    u32_or_nat _ _ h4 h3, Nat.or_comm, nat_join (8 * k) _ acc (by rw [hp]; exact Nat.mul_mod_left _ _) (by rw [hp]; exact hacc), Nat.add_comm]
set_option maxHeartbeats 400000 in
theorem find_word (u : Value) (r : List Nat) (w : World) (h : Rd w w.heap.size u r) :
    Calls Try.prog 86 #[u] w fun x w' => x = .returned (.tuple #[.int .u32 ((fWord r).1 : Int), .int .i64 ((fWord r).2.1 : Int), .int .i64 ((fWord r).2.2 : Int)]) ∧ w = w' := by
  obtain ⟨a, c, rfl, h1, h2, -, hb, hcell⟩ := h
  unfold maxLen at h2
  by_cases h0 : r.length < 4
  · have HF := Lib.hid (show fWord r = (0, 0, 3) by unfold fWord; rw [if_pos h0])
    go_enter Try.func86, Try.ntmps86
    go_wp2
    go_ret3
    rw [HF.out]
    exact ⟨rfl, rfl⟩
  · have HF := Lib.hid (show fWord r = (wordN r, 4, 0) by unfold fWord; rw [if_neg h0])
    have hacc := wAcc_lt r hb
    have HA := Lib.hid hacc
    have HB := Lib.hid hb
    obtain ⟨b, off, rfl, hlt, hc⟩ := hcell (by omega)
    have HC := Lib.hid hc
    have h4 : 4 ≤ r.length := by omega
    clear hc h0 hacc hb hcell
    go_enter Try.func86, Try.ntmps86
    go_wp2
    go_loop [5, 6, 10] (fun n _ i => ∃ k : Nat, k ≤ 4 ∧ i = .int .i64 k ∧ n = .int .u32 (wAcc r k : Int)) (fun _ _ i => 4 - (intOf i).toNat)
    case atStart => exact ⟨0, by omega, rfl, rfl⟩
    case round =>
      obtain ⟨k, hk, rfl, rfl⟩ := hrel
      by_cases hlt : k < 4
      · have hk2 : k < r.length := by omega
        have hcell := HC.out k hk2
        have hy : r.getD k 0 < 256 := HB.out _ (by simp [List.getElem?_eq_getElem hk2])
        have ha := HA.out k (by omega)
        have HS := Lib.hid (word_step _ _ k hlt ha hy)
        have HT := Lib.hid (show wAcc r (k + 1) = wAcc r k + r.getD k 0 * 256 ^ k from rfl)
        generalize r.getD k 0 = y at *
        generalize hz : wAcc r k = z at *
        clear hz ha
        go_wp2
        go_round
        case rel => exact ⟨k + 1, by omega, by go_num, by rw [HT.out, ← HS.out, IntKind.wrap_u32]⟩
        case measure => simp [intOf]; omega
      · obtain rfl : k = 4 := by omega
        go_wp2
        go_ret3
        rw [HF.out, ← wAcc_word]
        exact ⟨rfl, rfl⟩
theorem dec_size (r : List Nat) (hb : ∀ x ∈ r, x < 256) : (Leb.dec r).2.1 ≤ r.length := by
  by_cases he : (Leb.dec r).2.2 = 0
  · exact (Leb.enc_dec r _ _ hb (Prod.ext rfl (Prod.ext rfl he))).2.1
  · rw [(Leb.dec_err r he).2]; omega
set_option maxHeartbeats 1000000 in
set_option maxRecDepth 100000 in
theorem find_text (u : Value) (r : List Nat) (b : Nat) (most : Int) (w : World) (h : Rd w w.heap.size u r) (hl : r.length ≤ 100000) (m0 : -9223372036854775808 ≤ most) (m1 : most ≤ 9223372036854775807) (hbx : w.cell? ⟨b, 0, none⟩ = some (.int .i64 most)) :
    Calls Try.prog 78 #[u, .pointer (some ⟨b, 0, none⟩)] w fun x w' => x = .returned (.tuple #[.string (str (fText most r).1), .int .i64 ((fText most r).2.1 : Int), .int .i64 ((fText most r).2.2 : Int)]) ∧ w = w' := by
  have hsz := dec_size r h.bytes
  have hroom := dec_room r h.bytes
  have h0e : str [] = ByteArray.empty := by decide +kernel
  have H0 := Lib.hid h0e
  clear h0e
  obtain ⟨a, c, rfl, -⟩ := id h
  have H := Lib.hid h
  clear h
  by_cases he : (Leb.dec r).2.2 ≠ 0
  · have HF := Lib.hid (show fText most r = ([], 0, (Leb.dec r).2.2) by unfold fText; rw [if_pos he])
    have hb : (((Leb.dec r).2.2 : Int) != 0) = true := by rw [bne_iff_ne]; omega
    clear he
    go_enter Try.func78, Try.ntmps78
    go_wp2_with fail
    refine (get _ r _ H.out).mono ?_
    rintro x w1 ⟨rfl, rfl⟩
    go_wp2
    go_ret3
    rw [HF.out, H0.out]
    exact ⟨rfl, rfl⟩
  · have hb : (((Leb.dec r).2.2 : Int) != 0) = false := by rw [bne_eq_false_iff_eq]; omega
    by_cases hm : most < 0 ∨ most < ((Leb.dec r).1 : Int)
    · have HF := Lib.hid (show fText most r = ([], 0, 5) by unfold fText; rw [if_neg he, if_pos hm])
      clear he
      by_cases hneg : most < 0
      · go_enter Try.func78, Try.ntmps78
        go_wp2_with fail
        refine (get _ r _ H.out).mono ?_
        rintro x w1 ⟨rfl, rfl⟩
        go_wp2
        go_ret3
        rw [HF.out, H0.out]
        exact ⟨rfl, rfl⟩
      · have hgt : most < ((Leb.dec r).1 : Int) := by omega
        clear hm
        go_enter Try.func78, Try.ntmps78
        go_wp2_with fail
        refine (get _ r _ H.out).mono ?_
        rintro x w1 ⟨rfl, rfl⟩
        go_wp2
        go_ret3
        rw [HF.out, H0.out]
        exact ⟨rfl, rfl⟩
    · have hm0 : 0 ≤ most := by omega
      have hm1 : ((Leb.dec r).1 : Int) ≤ most := by omega
      by_cases hlt : r.length - (Leb.dec r).2.1 < (Leb.dec r).1
      · have HF := Lib.hid (show fText most r = ([], 0, 3) by unfold fText; rw [if_neg he, if_neg hm, if_pos hlt])
        have hlt2 : (r.length : Int) - ((Leb.dec r).2.1 : Int) < ((Leb.dec r).1 : Int) := by omega
        clear he hm
        go_enter Try.func78, Try.ntmps78
        go_wp2_with fail
        refine (get _ r _ H.out).mono ?_
        rintro x w1 ⟨rfl, rfl⟩
        go_wp2
        go_ret3
        rw [HF.out, H0.out]
        exact ⟨rfl, rfl⟩
      · have HF := Lib.hid (show fText most r = ((r.take ((Leb.dec r).2.1 + (Leb.dec r).1)).drop (Leb.dec r).2.1, (Leb.dec r).2.1 + (Leb.dec r).1, 0) by unfold fText; rw [if_neg he, if_neg hm, if_neg hlt])
        have hge2 : ((Leb.dec r).1 : Int) ≤ (r.length : Int) - ((Leb.dec r).2.1 : Int) := by omega
        obtain ⟨v, hv, hrv⟩ := cut_mid w _ a r c (Leb.dec r).2.1 ((Leb.dec r).2.1 + (Leb.dec r).1) H.out (by omega) (by omega)
        have hstr := run_str w _ v _ hrv
        clear he hm hrv
        rw [Int.natCast_add] at hv
        go_enter Try.func78, Try.ntmps78
        go_wp2_with fail
        refine (get _ r _ H.out).mono ?_
        rintro x w1 ⟨rfl, rfl⟩
        go_wp2
        go_ret3
        rw [HF.out]
        exact ⟨ret3f (by dsimp only; omega) rfl, rfl⟩
theorem undrew {w w' : World} (h : Below w.drew.heap.size w.drew w') : Below w.heap.size w w' := ⟨h.os, h.tape, h.output, h.size, h.block⟩
theorem undrewN {w w' : World} {n : Nat} (h : Below (w.drewN n).heap.size (w.drewN n) w') : Below w.heap.size w w' := ⟨h.os, h.tape, h.output, h.size, h.block⟩
/-- What Raw's literal finds. -/
def RawP (w : World) (n : Int) (r : List Nat) (x : Ending) (w' : World) : Prop :=
  ∃ v, x = .returned (.tuple #[v, .int .i64 ((fRaw n r).2.1 : Int), .int .i64 ((fRaw n r).2.2 : Int)]) ∧ Own w' w.heap.size v (fRaw n r).1 ∧ Below w.heap.size w w'
set_option maxHeartbeats 1000000 in
theorem find_raw (u : Value) (r : List Nat) (b : Nat) (n : Int) (w : World) (h : Rd w w.heap.size u r) (hl : r.length ≤ 100000) (m0 : -9223372036854775808 ≤ n) (m1 : n ≤ 9223372036854775807) (hbl : b < w.heap.size) (hbx : w.cell? ⟨b, 0, none⟩ = some (.int .i64 n)) :
    Calls Try.prog 68 #[u, .pointer (some ⟨b, 0, none⟩)] w (RawP w n r) := by
  obtain ⟨a, c, rfl, -⟩ := id h
  by_cases hneg : n < 0
  · have HF := Lib.hid (show fRaw n r = ([], 0, 6) by unfold fRaw; rw [if_pos hneg])
    go_enter Try.func68, Try.ntmps68
    go_wp2
    go_ret3
    refine ⟨_, by rw [HF.out]; rfl, by rw [HF.out]; exact Own.nil _ _, Below.refl _ _⟩
  · by_cases hgt : (r.length : Int) < n
    · have HF := Lib.hid (show fRaw n r = ([], 0, 3) by unfold fRaw; rw [if_neg hneg, if_pos hgt])
      go_enter Try.func68, Try.ntmps68
      go_wp2
      go_ret3
      refine ⟨_, by rw [HF.out]; rfl, by rw [HF.out]; exact Own.nil _ _, Below.refl _ _⟩
    · have HF := Lib.hid (show fRaw n r = (r.take n.toNat, n.toNat, 0) by unfold fRaw; rw [if_neg hneg, if_neg hgt])
      obtain ⟨m, rfl⟩ := Int.eq_ofNat_of_zero_le (show 0 ≤ n by omega)
      rw [Int.toNat_natCast] at HF
      obtain ⟨v, hv, hrv⟩ := cut_to w _ a r c m h (by omega)
      have HR := Lib.hid hrv
      have htl : (r.take m).length ≤ 100000 := by rw [List.length_take]; omega
      clear hrv h
      go_enter Try.func68, Try.ntmps68
      go_wp2
      go_region_held3 (fun wx => wx.cell? ⟨b, 0, none⟩ = some (.int .i64 (m : Int))) (first | exact hbx | exact hbx1)
        (first
        | (go_at_call 51; refine (clone v _ _ (HR.out.drewN 1) (by omega)).mono ?_; rintro x w1 ⟨v1, rfl, ho1, hb1⟩; have hbx1 : w1.cell? ⟨b, 0, none⟩ = some (.int .i64 (m : Int)) := (hb1.cell (p := ⟨b, 0, none⟩) hbl).trans hbx))
      go_wp2
      go_ret3
      refine ⟨_, by rw [HF.out]; rfl, by rw [HF.out]; exact ho1, undrew hb1⟩
end Go.Proofs.Ytdijcgjgdfhapaa
