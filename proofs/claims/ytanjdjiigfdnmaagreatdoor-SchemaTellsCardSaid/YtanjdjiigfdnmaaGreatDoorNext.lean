/- The reference's Next, and Valid of both. -/
import Derived.Test.YtanjdjiigfdnmaaGreatDoorRune
import Derived.Lib.OthersKept
namespace Go.Proofs.YtanjdjiigfdnmaaGreatDoor
open Go.RowKit
set_option linter.unusedVariables false

theorem up {w w1 w2 : World} (h1 : Below w.heap.size w w1) (h2 : Below w1.heap.size w1 w2) : Below w.heap.size w w2 := h1.trans (h2.mono h1.size)
set_option maxRecDepth 100000 in
set_option maxHeartbeats 1000000 in
theorem rnext (s : ByteArray) (w : World) (hm : s.size ≤ maxLen) (N : Nat) (hN : Utf.nw (bl s) = N) :
    Calls Tryz.prog 132 #[.string s] w fun e w' => e = .returned (.tuple #[.int .i32 (Utf.nr (bl s) : Nat), .int .i64 (N : Nat), .bool (decide (N ≠ 0))]) ∧ Below w.heap.size w w' := by
  unfold maxLen at hm
  have h4 := Utf.nw_le4 (bl s) (bl_byte s)
  have hle := Utf.nw_le (bl s) (bl_byte s)
  rw [bl_length] at hle
  rw [hN] at h4 hle
  have HN := Lib.hid hN
  clear hN
  go_enter Tryz.func132, Tryz.ntmps132
  go_wp2
  go_loopw [5] (fun i wr => ∃ k : Nat, k ≤ 4 ∧ k ≤ s.size ∧ i = .int .i64 ((k : Int) + 1) ∧ (N = 0 ∨ k < N) ∧ Below w.heap.size w wr) (fun i _ => 5 - (intOf i).toNat)
  case atStart => exact ⟨0, by omega, by omega, rfl, by omega, Below.refl _ _⟩
  case round =>
    obtain ⟨k, hk4, hks, rfl, hkn, hb⟩ := hrel
    by_cases hlt : k < 4 ∧ k < s.size
    · obtain ⟨hl4, hls⟩ := hlt
      have hx : (s.extract 0 (k + 1)).size = k + 1 := by rw [ByteArray.size_extract]; omega
      have CN := number (s.extract 0 (k + 1)) wr (by omega) (by omega)
      have hbl := bl_to s (k + 1)
      rw [hbl] at CN
      have hR := Utf.ref_test (bl s) (bl_byte s) (k + 1) (by omega) (by rw [bl_length]; omega)
      have hF := Utf.ref_rune (bl s) (bl_byte s) (k + 1) (by omega)
      have hlt2 := Utf.num_lt ((bl s).take (k + 1)) (Utf.take_byte (bl_byte s) _)
      rw [HN.out] at hR hF
      have hi1 : (k : Int) + 1 ≤ 4 := by omega
      have hi2 : (k : Int) + 1 ≤ s.size := by omega
      generalize hr : Utf.num ((bl s).take (k + 1)) = r at *
      by_cases hw : N = k + 1
      · have ⟨i1, i2⟩ := hR.2 hw
        have hq : ((str (Utf.enc r)).toList == (s.extract 0 (k + 1)).toList) = true := by rw [bl_eq, bl_str _ (Utf.enc_byte r i1), hbl, i2]; simp
        have HE := Lib.hid (hF hw)
        have HW := Lib.hid hw
        have CP := rput_yes r wr i1
        clear hR hF hr hw hbl hx i2 hkn
        go_wp2_with (first
          | (go_at_call 158; refine CN.mono ?_; rintro e w' ⟨rfl, hw'⟩; subst hw')
          | (go_at_call 159; refine CP.mono ?_; rintro e w2 ⟨rfl, hb2⟩))
        go_ret3
        exact ⟨by rw [← HE.out, HW.out]; simp, up hb hb2⟩
      · by_cases i1 : Utf.isr r
        · have hq : ((str (Utf.enc r)).toList == (s.extract 0 (k + 1)).toList) = false := by
            rw [bl_eq, bl_str _ (Utf.enc_byte r i1), hbl]
            exact decide_eq_false fun e => hw (hR.1 ⟨i1, e⟩)
          have CP := rput_yes r wr i1
          clear hR hF hr hbl hx
          go_wp2_with (first
            | (go_at_call 158; refine CN.mono ?_; rintro e w' ⟨rfl, hw'⟩; subst hw')
            | (go_at_call 159; refine CP.mono ?_; rintro e w2 ⟨rfl, hb2⟩))
          go_roundw
          case rel => exact ⟨k + 1, by omega, by omega, by go_num, by omega, up hb hb2⟩
          case measure => simp [intOf]; omega
        · have CP := rput_no (r : Int) wr (by rw [isR_nat]; exact i1) (by omega) (by omega)
          clear hR hF hr hbl hx
          go_wp2_with (first
            | (go_at_call 158; refine CN.mono ?_; rintro e w' ⟨rfl, hw'⟩; subst hw')
            | (go_at_call 159; refine CP.mono ?_; rintro e w2 ⟨rfl, hw'⟩; subst hw'))
          go_roundw
          case rel => exact ⟨k + 1, by omega, by omega, by go_num, by omega, hb⟩
          case measure => simp [intOf]; omega
    · have h0 : N = 0 := by omega
      have hnr := Lib.hid (Utf.nx_none (bl s) (by rw [HN.out]; exact h0))
      have HZ := Lib.hid h0
      by_cases hl4 : k < 4
      · have hi1 : (k : Int) + 1 ≤ 4 := by omega
        have hi2 : ¬ ((k : Int) + 1 ≤ s.size) := by omega
        clear h0
        go_wp2
        go_ret3
        exact ⟨by rw [hnr.out, HZ.out]; simp, hb⟩
      · have hi1 : ¬ ((k : Int) + 1 ≤ 4) := by omega
        clear h0
        go_wp2
        go_ret3
        exact ⟨by rw [hnr.out, HZ.out]; simp, hb⟩
theorem rnext_yes (s : ByteArray) (w : World) (hm : s.size ≤ maxLen) (h : Utf.nw (bl s) ≠ 0) :
    Calls Tryz.prog 132 #[.string s] w fun e w' => e = .returned (.tuple #[.int .i32 (Utf.nr (bl s) : Nat), .int .i64 (Utf.nw (bl s) : Nat), .bool true]) ∧ Below w.heap.size w w' :=
  (rnext s w hm _ rfl).mono fun _ _ ⟨he, hb⟩ => ⟨by rw [he]; simp [h], hb⟩
theorem rnext_no (s : ByteArray) (w : World) (hm : s.size ≤ maxLen) (h : Utf.nw (bl s) = 0) :
    Calls Tryz.prog 132 #[.string s] w fun e w' => e = .returned (.tuple #[.int .i32 0, .int .i64 0, .bool false]) ∧ Below w.heap.size w w' :=
  (rnext s w hm _ rfl).mono fun _ _ ⟨he, hb⟩ => ⟨by rw [he, Utf.nx_none _ h, h]; simp, hb⟩

theorem ret_bool {a b : Bool} (h : a = b) : Ending.returned (.bool a) = .returned (.bool b) := by rw [h]
def sz : Value → Nat
  | .string t => t.size
  | _ => 0
set_option maxRecDepth 100000 in
set_option maxHeartbeats 1000000 in
theorem rvalid (s : ByteArray) (w : World) (hm : s.size ≤ maxLen) (b : Bool) (hb : Utf.vld (bl s) = b) :
    Calls Tryz.prog 96 #[.string s] w fun e w' => e = .returned (.bool b) ∧ Below w.heap.size w w' := by
  have HB := Lib.hid hb
  clear hb
  go_enter Tryz.func96, Tryz.ntmps96
  go_wp2
  go_loopw [0] (fun v wr => ∃ t : ByteArray, v = .string t ∧ t.size ≤ maxLen ∧ Hid (Utf.vld (bl t) = b) ∧ Below w.heap.size w wr) (fun v _ => sz v)
  case atStart => exact ⟨s, rfl, hm, HB, Below.refl _ _⟩
  case round =>
    obtain ⟨t, rfl, hm', HV, hbw⟩ := hrel
    have hm2 := hm'
    unfold maxLen at hm2
    by_cases h0 : 0 < t.size
    · have hne : bl t ≠ [] := fun e => by have := bl_nil.1 e; omega
      have hs := Utf.vld_step (bl t) hne
      rw [HV.out] at hs
      by_cases h1 : Utf.nw (bl t) = 0
      · rw [if_pos h1] at hs
        have HS := Lib.hid hs
        have C := rnext_no t wr hm' h1
        clear hs h1 hne
        go_wp2_with (go_at_call 132; refine C.mono ?_; rintro e w2 ⟨rfl, hb2⟩)
        go_ret
        exact ⟨ret_bool HS.out.symm, up hbw hb2⟩
      · rw [if_neg h1] at hs
        have hle := Utf.nw_le (bl t) (bl_byte t)
        rw [bl_length] at hle
        have hf := bl_from t (Utf.nw (bl t))
        have C := rnext_yes t wr hm' h1
        generalize Utf.nr (bl t) = r at *
        generalize Utf.nw (bl t) = n at *
        have HS := Lib.hid hs
        have HF := Lib.hid hf
        clear hs hf hne
        go_wp2_with (go_at_call 132; refine C.mono ?_; rintro e w2 ⟨rfl, hb2⟩)
        go_roundw
        case rel => exact ⟨_, rfl, by rw [ByteArray.size_extract]; omega, by rw [HF.out]; exact Lib.hid HS.out.symm, up hbw hb2⟩
        case measure => simp [sz]; omega
    · have h2 : bl t = [] := bl_nil.2 (by omega)
      have h3 := HV.out
      rw [h2, Utf.vld_nil] at h3
      have H3 := Lib.hid h3
      clear h3 h2
      go_wp2
      go_ret
      exact ⟨ret_bool H3.out, hbw⟩

theorem dec_step (l : List Nat) (h : Utf.nw l ≠ 0) : Utf.dec l = (Utf.nr l, Utf.nw l) := by
  have h0 : ¬ (l = [] ∨ ((Utf.dec l).1 = 65533 ∧ (Utf.dec l).2 ≤ 1)) := by
    intro hc; unfold Utf.nw at h; rw [if_pos hc] at h; exact h rfl
  have e1 : Utf.nw l = (Utf.dec l).2 := by unfold Utf.nw; rw [if_neg h0]
  have e2 : Utf.nr l = (Utf.dec l).1 := by unfold Utf.nr; rw [if_neg h]
  rw [e1, e2]
set_option maxRecDepth 100000 in
set_option maxHeartbeats 1000000 in
theorem valid (s : ByteArray) (w : World) (T : Tab w) (hm : s.size ≤ maxLen) (b : Bool) (hb : Utf.vld (bl s) = b) :
    Calls Tryz.prog 145 #[.string s] w fun e w' => e = .returned (.bool b) ∧ Below w.heap.size w w' := by
  unfold maxLen at hm
  have HB := Lib.hid hb
  have HT := Lib.hid T
  clear hb T
  go_enter Tryz.func145, Tryz.ntmps145
  go_wp2
  go_loopw [] (fun wr => ∃ pos : Nat, pos ≤ s.size ∧ wr.heap[w.heap.size]? = some (.stringIter s pos) ∧ Below w.heap.size w wr ∧ Hid (Utf.vld ((bl s).drop pos) = b)) (fun wr => s.size - wr.iterPos w.heap.size)
  case atStart => exact ⟨0, by omega, by have := World.iter_heap w s 0; simpa using this, (Below.refl _ _).alloc (Nat.le_refl _) _, by simpa using HB⟩
  case round =>
    obtain ⟨pos, hps, hit, hbw, HV⟩ := hrel
    by_cases hp : pos < s.size
    · have hnx : ∀ ty, (Instr.next (.pointer (some ⟨w.heap.size, 0, none⟩)) true ty).run Tryz.prog wr = _ := fun ty => Lib.run_next_any_at wr w.heap.size s pos ty hit hp
      have hne : (bl s).drop pos ≠ [] := fun e => by have := congrArg List.length e; simp [bl_length] at this; omega
      have hs := Utf.vld_step _ hne
      rw [HV.out] at hs
      have hbl := bl_from s pos
      rw [dec_from s pos hp] at hnx
      by_cases h1 : Utf.nw ((bl s).drop pos) = 0
      · rw [if_pos h1] at hs
        have hT2 : ∀ q, Tab (wr.iterAt w.heap.size s q) := fun q => HT.out.later (Lib.below_iterAt hbw (Nat.le_refl _) s q)
        have hB2 := Lib.below_iterAt hbw (k := w.heap.size) (Nat.le_refl _) s (pos + (Utf.dec ((bl s).drop pos)).2)
        have C := next_no (s.extract pos s.size) _ (hT2 (pos + (Utf.dec ((bl s).drop pos)).2)) (by rw [hbl]; exact h1)
        generalize Utf.dec ((bl s).drop pos) = d at *
        have HS := Lib.hid hs
        clear hs h1 hne hbl hT2
        go_wp2_with (go_at_call 170; refine C.mono ?_; rintro e w2 ⟨rfl, hb2⟩)
        go_ret
        exact ⟨ret_bool HS.out.symm, up hB2 hb2⟩
      · rw [if_neg h1] at hs
        have hle := Utf.nw_le _ (Utf.drop_byte (bl_byte s) pos)
        rw [List.length_drop, bl_length] at hle
        rw [dec_step _ h1] at hnx
        have hT2 : ∀ q, Tab (wr.iterAt w.heap.size s q) := fun q => HT.out.later (Lib.below_iterAt hbw (Nat.le_refl _) s q)
        have hB2 := Lib.below_iterAt hbw (k := w.heap.size) (Nat.le_refl _) s (pos + Utf.nw ((bl s).drop pos))
        have hit2 := Lib.iterAt_heap wr w.heap.size s pos (pos + Utf.nw ((bl s).drop pos)) hit
        have C := next_yes (s.extract pos s.size) _ (hT2 (pos + Utf.nw ((bl s).drop pos))) (by rw [hbl]; exact h1)
        rw [hbl] at C
        rw [List.drop_drop] at hs
        generalize Utf.nr ((bl s).drop pos) = r at *
        generalize Utf.nw ((bl s).drop pos) = n at *
        have HS := Lib.hid hs
        have HI := Lib.hid hit
        have HI2 := Lib.hid hit2
        have hlt : w.heap.size < (wr.iterAt w.heap.size s (pos + n)).heap.size := (Array.getElem?_eq_some_iff.1 hit2).1
        clear hs hne hbl hT2 hit hit2
        go_wp2_with (go_at_call 170; refine C.mono ?_; rintro e w2 ⟨rfl, hb2⟩)
        go_roundw
        case rel => exact ⟨pos + n, by omega, (hb2.block _ hlt).trans HI2.out, up hB2 hb2, Lib.hid HS.out.symm⟩
        case measure =>
          simp only [World.iterPos, (hb2.block _ hlt).trans HI2.out, HI.out]
          omega
    · have hnx : ∀ ty, (Instr.next (.pointer (some ⟨w.heap.size, 0, none⟩)) true ty).run Tryz.prog wr = _ := fun ty => Lib.run_next_end_at wr w.heap.size s pos ty hit hp
      have h3 := HV.out
      rw [List.drop_of_length_le (by rw [bl_length]; omega), Utf.vld_nil] at h3
      have H3 := Lib.hid h3
      clear h3
      go_wp2
      go_ret
      exact ⟨ret_bool H3.out, hbw⟩
end Go.Proofs.YtanjdjiigfdnmaaGreatDoor
