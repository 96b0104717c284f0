/- Word of the program's writer; Done and Len; the pieces of the laws, put by both writers. -/
import Derived.Test.YtdijcgjgdfhapaaWrit
namespace Go.Proofs.Ytdijcgjgdfhapaa
open Go.RowKit
set_option linter.unusedVariables false

/-- An array of four bytes, k of them having been laid. -/
def wfill (n k : Nat) : List Nat := (List.range 4).map fun j => if j < k then n / 256 ^ j % 256 else 0
theorem wfill_length (n k : Nat) : (wfill n k).length = 4 := by simp [wfill]
theorem wfill_step (n k : Nat) (hk : k < 4) : (wfill n k).set k (n / 256 ^ k % 256) = wfill n (k + 1) := by
  refine List.ext_getElem (by simp [wfill]) fun j h1 h2 => ?_
  rw [List.getElem_set]
  simp only [wfill, List.getElem_map, List.getElem_range]
  by_cases e : k = j
  · subst e; simp
  · rw [if_neg e]
    by_cases hj : j < k
    · rw [if_pos hj, if_pos (by omega)]
    · rw [if_neg hj, if_neg (by omega)]
theorem wfill_word (n : Nat) : wfill n 4 = wordL n := by simp [wfill, wordL, List.range_succ]
theorem wbyte_eq (n k : Nat) : ((n : Int) / 2 ^ (8 * k)) % 256 = ((n / 256 ^ k % 256 : Nat) : Int) := by
  have : (2 : Nat) ^ (8 * k) = 256 ^ k := by rw [Nat.pow_mul]
  rw [← this]
  simp
theorem vals_set (l : List Nat) (k x : Nat) : (vals l).set k (.int .u8 (x : Int)) = vals (l.set k x) := by simp [vals, List.map_set]
theorem rd_arr (w : World) (g : Nat) (t : TypeId) (l : List Nat) (h : Blk w g t (vals l)) (hb : ∀ x ∈ l, x < 256) (hl : l.length ≤ 1000) : Rd w w.heap.size (.slice (some ⟨g, 0, none⟩) l.length l.length) l := by
  refine ⟨_, _, rfl, Nat.le_refl _, by simp only [maxLen]; omega, by simp, hb, fun _ => ⟨g, 0, rfl, h.lt, fun k hk => ?_⟩⟩
  rw [Nat.zero_add, h.cell k]
  simp [vals, List.getElem?_eq_getElem hk]

set_option maxHeartbeats 1000000 in
set_option maxRecDepth 100000 in
theorem wWord (g m : Nat) (f : Bool) (l : List Nat) (n : Nat) (R : Nat → Prop) (w : World) (P : PW w R g m (f, l)) (hm : (m : Int) ≤ 9223372036854775807) (hl : l.length ≤ 100000000) (hn : (n : Int) ≤ 4294967295) :
    Calls Try.prog 43 #[.pointer (some ⟨g, 0, none⟩), .int .u32 (n : Int)] w (PPut w R g m (puts m f l (wordL n))) := by
  have HP := Lib.hid P
  clear P
  go_enter Try.func43, Try.ntmps43
  go_wp2
  go_loopw [5, 6] (fun _ i wr => ∃ k : Nat, k ≤ 4 ∧ i = .int .i64 k ∧ Blk wr w.heap.size 93 (vals (wfill n k)) ∧ Below w.heap.size w wr) (fun _ i _ => 4 - (intOf i).toNat)
  case atStart => exact ⟨0, by omega, rfl, Blk.new w _ _, new_below _ _⟩
  case round =>
    obtain ⟨k, hk, rfl, hB, hb⟩ := hrel
    by_cases hlt : k < 4
    · have hcell := hB.cell k
      have hfz := hB.frozen k
      rw [show (vals (wfill n k))[k]? = some (.int .u8 ((wfill n k).getD k 0 : Nat)) by
        have : k < (wfill n k).length := by rw [wfill_length]; exact hlt
        simp [vals, List.getElem?_eq_getElem this]] at hcell
      generalize (wfill n k).getD k 0 = old at hcell
      go_wp2
      go_roundw
      case rel =>
        refine ⟨k + 1, by omega, by go_num, ?_, hb.setCell (Nat.le_refl _) _⟩
        have h2 := hB.put k (.int .u8 ((n / 256 ^ k % 256 : Nat) : Int))
        rw [vals_set, wfill_step n k hlt, ← wbyte_eq] at h2
        exact h2
      case measure => simp [intOf]; omega
    · obtain rfl : k = 4 := by omega
      have h4 := rd_arr wr _ _ _ hB (by rw [wfill_word]; exact wordL_byte n) (by rw [wfill_length]; omega)
      rw [wfill_word] at h4
      have HB := Lib.hid h4
      clear h4
      go_wp2_with fail
      refine (wput g m f l (wordL n) R _ _ (HP.out.later hb) HB.out hm hl (by simp [wordL])).mono ?_
      rintro x w1 h1
      obtain ⟨rfl, h2⟩ := h1.lift hb
      have H2 := Lib.hid h2
      clear h1 h2
      go_wp2
      go_end0
      exact ⟨rfl, H2.out⟩
end Go.Proofs.Ytdijcgjgdfhapaa
