/- Next and Put of the program, and of the reference what Next stands on: runes as bytes. -/
import Derived.Test.YtanjdjiigfdnmaaGreatDoorStr
import Derived.Test.YtanjdjiigfdnmaaGreatDoorLit
import Derived.Test.YtanjdjiigfdnmaaGreatDoorSep
namespace Go.Proofs.YtanjdjiigfdnmaaGreatDoor
open Go.RowKit
set_option linter.unusedVariables false

theorem go_yes (s : ByteArray) (h : Utf.nw (bl s) ≠ 0) : Lib.decodeGo s = (Utf.nr (bl s), Utf.nw (bl s)) ∧ ¬ (Utf.nr (bl s) = 65533 ∧ Utf.nw (bl s) ≤ 1) := by
  have h0 : ¬ (bl s = [] ∨ ((Utf.dec (bl s)).1 = 65533 ∧ (Utf.dec (bl s)).2 ≤ 1)) := by
    intro hc; unfold Utf.nw at h; rw [if_pos hc] at h; exact h rfl
  have e1 : Utf.nw (bl s) = (Utf.dec (bl s)).2 := by unfold Utf.nw; rw [if_neg h0]
  have e2 : Utf.nr (bl s) = (Utf.dec (bl s)).1 := by unfold Utf.nr; rw [if_neg h]
  rw [dec_go, if_neg (fun e => h0 (.inl (bl_nil.2 e))), e1, e2]
  exact ⟨rfl, fun e => h0 (.inr e)⟩
theorem go_no (s : ByteArray) (h : Utf.nw (bl s) = 0) : (Lib.decodeGo s).1 = 65533 ∧ (Lib.decodeGo s).2 ≤ 1 := by
  rw [dec_go]
  by_cases h0 : s.size = 0
  · rw [if_pos h0]; simp
  · rw [if_neg h0]
    by_cases h1 : bl s = [] ∨ ((Utf.dec (bl s)).1 = 65533 ∧ (Utf.dec (bl s)).2 ≤ 1)
    · rcases h1 with h1 | h1
      · exact absurd (bl_nil.1 h1) h0
      · exact h1
    · unfold Utf.nw at h
      rw [if_neg h1] at h
      exfalso
      have h2 := Utf.dec_some (bl s).length _ _ _ _ (Utf.getD_byte (bl_byte s) 0) (Utf.getD_byte (bl_byte s) 1) (Utf.getD_byte (bl_byte s) 2) (Utf.getD_byte (bl_byte s) 3) (by rw [bl_length]; omega) (fun e => h1 (.inr e))
      change _ ∧ _ ∧ ((Utf.dec (bl s)).2 = 1 ∧ _ ∨ (Utf.dec (bl s)).2 = 2 ∧ _ ∨ (Utf.dec (bl s)).2 = 3 ∧ _ ∨ (Utf.dec (bl s)).2 = 4 ∧ _) at h2
      omega

set_option maxHeartbeats 400000 in
theorem next_yes (s : ByteArray) (w : World) (T : Tab w) (h : Utf.nw (bl s) ≠ 0) :
    Calls Tryz.prog 170 #[.string s] w fun e w' => e = .returned (.tuple #[.int .i32 (Utf.nr (bl s) : Nat), .int .i64 (Utf.nw (bl s) : Nat), .bool true]) ∧ Below w.heap.size w w' := by
  have C := Tryz.utf8_DecodeRuneInString s w T
  obtain ⟨e1, e2⟩ := go_yes s h
  rw [e1] at C
  clear e1 h
  generalize Utf.nr (bl s) = R at *
  generalize Utf.nw (bl s) = K at *
  by_cases h1 : R = 65533
  · have h2 : ¬ ((K : Int) ≤ 1) := by omega
    have h3 : ((R : Int) == 65533) = true := by simp; omega
    clear h1 e2
    go_enter Tryz.func170, Tryz.ntmps170
    go_wp2_with (go_at_call 131; refine C.mono ?_; rintro e w' ⟨rfl, hb⟩)
    go_ret3
    exact ⟨rfl, hb⟩
  · have h3 : ((R : Int) == 65533) = false := by simp; omega
    clear h1 e2
    go_enter Tryz.func170, Tryz.ntmps170
    go_wp2_with (go_at_call 131; refine C.mono ?_; rintro e w' ⟨rfl, hb⟩)
    go_ret3
    exact ⟨rfl, hb⟩
set_option maxHeartbeats 400000 in
theorem next_no (s : ByteArray) (w : World) (T : Tab w) (h : Utf.nw (bl s) = 0) :
    Calls Tryz.prog 170 #[.string s] w fun e w' => e = .returned (.tuple #[.int .i32 0, .int .i64 0, .bool false]) ∧ Below w.heap.size w w' := by
  have C := Tryz.utf8_DecodeRuneInString s w T
  obtain ⟨e1, e2⟩ := go_no s h
  clear h
  rw [e1] at C
  clear e1
  generalize (Lib.decodeGo s).2 = K at *
  have h2 : ((K : Int) ≤ 1) := by omega
  go_enter Tryz.func170, Tryz.ntmps170
  go_wp2_with (go_at_call 131; refine C.mono ?_; rintro e w' ⟨rfl, hb⟩)
  go_ret3
  exact ⟨rfl, hb⟩

/-- Is a number a rune? -/
def isR (x : Int) : Prop := 0 ≤ x ∧ Utf.isr x.toNat
instance (x : Int) : Decidable (isR x) := by unfold isR; infer_instance
theorem isR_nat (r : Nat) : isR (r : Int) ↔ Utf.isr r := by unfold isR; simp
theorem validRune_eq (x : Int) : Lib.validRune x = decide (isR x) := by
  unfold Lib.validRune
  have h : ((0 ≤ x ∧ x < 0xD800) ∨ (0xDFFF < x ∧ x ≤ 0x10FFFF)) ↔ isR x := by
    unfold isR Utf.isr; omega
  exact decide_eq_decide.2 h
theorem encode_eq (r : Nat) (h : Utf.isr r) : Utf8.encode (r : Int) = str (Utf.enc r) := by
  have hv : Utf8.valid (r : Int) = true := by
    unfold Utf.isr at h
    simp only [Utf8.valid, Bool.or_eq_true, Bool.and_eq_true, decide_eq_true_eq]
    omega
  refine ByteArray.ext (Array.toList_inj.1 ?_)
  simp only [str, strOfNums_data, Utf8.encode, hv, if_true, Utf.enc, List.map_map]
  have e : (r : Int).toNat = r := by simp
  rw [e]
  repeat' split
  all_goals
    simp only [List.map_cons, List.map_nil, Function.comp_apply, Int.toNat_natCast]
    try rfl

/-! ### the reference -/
theorem bytes_str (l : List Nat) : (strOfNums (l.map fun (x : Nat) => (x : Int))) = str l := rfl
/-- A list of bytes, written out in a new block, as a string. -/
theorem conv_lit (w : World) (l : List Nat) (c : Array Value) (n : Nat) (hc : c.toList = vals l) (hn : n = l.length) (hb : ∀ x ∈ l, x < 256) (hm : l.length ≤ 100000) :
    (convert 118 9 (.slice (some ⟨w.heap.size, 0, none⟩) n n)).run Tryz.prog (w.alloc (.cells c 5)) = .ok (.string (str l)) (w.alloc (.cells c 5)) := by
  subst hn
  refine run_str _ (w.heap.size + 1) _ l ⟨_, _, rfl, Nat.le_refl _, by simp only [maxLen]; omega, by simp, hb, fun hp => ⟨w.heap.size, 0, rfl, by omega, fun k hk => ?_⟩⟩
  have := (Blk.new w 5 c).cell (0 + k)
  rw [this, hc]
  simp [vals, List.getElem?_eq_getElem hk]
set_option maxRecDepth 100000 in
set_option maxHeartbeats 1000000 in
theorem rput_yes (r : Nat) (w : World) (h : Utf.isr r) :
    Calls Tryz.prog 159 #[.int .i32 r] w fun e w' => e = .returned (.tuple #[.string (str (Utf.enc r)), .bool true]) ∧ Below w.heap.size w w' := by
  unfold Utf.isr at h
  by_cases h1 : r < 128
  · have E := Lib.hid (Utf.enc_low r h1)
    have h2 : ((r : Int) % 256) = r := by omega
    have C := conv_lit w [r] #[.int .u8 (r : Nat)] 1 rfl rfl (by simp; omega) (by simp)
    have h3 : (r : Int) < 128 := by omega
    have h4 : (0 : Int) ≤ r := by omega
    clear h h1
    generalize (r : Int) = x at *
    go_enter Tryz.func159, Tryz.ntmps159
    go_wp2
    go_ret2
    exact ⟨by rw [E.out]; rfl, (Below.refl _ _).alloc (Nat.le_refl _) _⟩
  · by_cases h2 : r < 2048
    · have E := Lib.hid (show Utf.enc r = [192 + r / 64, 128 + r % 64] by unfold Utf.enc; rw [if_neg h1, if_pos h2])
      have C := conv_lit (w.alloc (.cells #[.int .u8 ((r : Int) % 256)] 5)) [192 + r / 64, 128 + r % 64] #[.int .u8 (192 + (r : Int) / 64), .int .u8 (128 + (r : Int) % 64)] 2 (by simp [vals]) rfl (by simp; omega) (by simp)
      rw [World.size_alloc] at C
      have h3 : (128 : Int) ≤ r := by omega
      have h4 : (r : Int) < 2048 := by omega
      clear h h1 h2
      generalize (r : Int) = x at *
      go_enter Tryz.func159, Tryz.ntmps159
      go_wp2
      go_ret2
      exact ⟨by rw [E.out]; rfl, ((Below.refl _ _).alloc (Nat.le_refl _) _).alloc (by simp) _⟩
    · by_cases h2' : r < 65536
      · have E := Lib.hid (show Utf.enc r = [224 + r / 4096, 128 + r / 64 % 64, 128 + r % 64] by unfold Utf.enc; rw [if_neg h1, if_neg h2, if_pos h2'])
        have C := conv_lit (w.alloc (.cells #[.int .u8 ((r : Int) % 256)] 5)) [224 + r / 4096, 128 + r / 64 % 64, 128 + r % 64] #[.int .u8 (224 + (r : Int) / 4096), .int .u8 (128 + (r : Int) / 64 % 64), .int .u8 (128 + (r : Int) % 64)] 3 (by simp [vals]) rfl (by simp; omega) (by simp)
        rw [World.size_alloc] at C
        have h3 : (2048 : Int) ≤ r := by omega
        have h4 : (r : Int) < 65536 := by omega
        rcases (show (r : Int) < 55296 ∨ 57343 < (r : Int) by omega) with h5 | h5
        all_goals
          clear h h1 h2 h2'
          generalize (r : Int) = x at *
          go_enter Tryz.func159, Tryz.ntmps159
          go_wp2
          go_ret2
          exact ⟨by rw [E.out]; rfl, ((Below.refl _ _).alloc (Nat.le_refl _) _).alloc (by simp) _⟩
      · have E := Lib.hid (show Utf.enc r = [240 + r / 262144, 128 + r / 4096 % 64, 128 + r / 64 % 64, 128 + r % 64] by unfold Utf.enc; rw [if_neg h1, if_neg h2, if_neg h2'])
        have C := conv_lit (w.alloc (.cells #[.int .u8 ((r : Int) % 256)] 5)) [240 + r / 262144, 128 + r / 4096 % 64, 128 + r / 64 % 64, 128 + r % 64] #[.int .u8 (240 + (r : Int) / 262144), .int .u8 (128 + (r : Int) / 4096 % 64), .int .u8 (128 + (r : Int) / 64 % 64), .int .u8 (128 + (r : Int) % 64)] 4 (by simp [vals]) rfl (by simp; omega) (by simp)
        rw [World.size_alloc] at C
        have h3 : (65536 : Int) ≤ r := by omega
        have h4 : (r : Int) ≤ 1114111 := by omega
        clear h h1 h2 h2'
        generalize (r : Int) = x at *
        go_enter Tryz.func159, Tryz.ntmps159
        go_wp2
        go_ret2
        exact ⟨by rw [E.out]; rfl, ((Below.refl _ _).alloc (Nat.le_refl _) _).alloc (by simp) _⟩
set_option maxRecDepth 100000 in
set_option maxHeartbeats 1000000 in
theorem rput_no (x : Int) (w : World) (h : ¬ isR x) (lo : -2147483648 ≤ x) (hi : x ≤ 2147483647) :
    Calls Tryz.prog 159 #[.int .i32 x] w fun e w' => e = .returned (.tuple #[.string ⟨#[]⟩, .bool false]) ∧ w = w' := by
  unfold isR Utf.isr at h
  rcases (show x < 0 ∨ 1114111 < x ∨ (55296 ≤ x ∧ x ≤ 57343) by omega) with h1 | h1 | ⟨h1, h2⟩
  all_goals
    clear h
    go_enter Tryz.func159, Tryz.ntmps159
    go_wp2
    go_ret2
    exact ⟨rfl, rfl⟩

theorem ret_int {k : IntKind} {a b : Int} (h : a = b) : Ending.returned (.int k a) = .returned (.int k b) := by rw [h]
/-- A rune's number, byte by byte. -/
def pa (h : Nat) (l : List Nat) : Nat → Nat
  | 0 => h
  | k + 1 => 64 * pa h l k + l.getD (k + 1) 0 % 64
def mask (L b : Nat) : Nat := if L = 2 then b % 32 else if L = 3 then b % 16 else if L = 4 then b % 8 else b
theorem pa_lt (h : Nat) (l : List Nat) (hh : h < 256) : ∀ k, pa h l k < 256 * 64 ^ k
  | 0 => by simp [pa]; omega
  | k + 1 => by
    have := pa_lt h l hh k
    simp only [pa, Nat.pow_succ]
    omega
theorem pa_small (h : Nat) (l : List Nat) (hh : h < 256) (k : Nat) (hk : k ≤ 3) : pa h l k < 67108864 := by
  have h1 := pa_lt h l hh k
  have h2 : 64 ^ k ≤ 64 ^ 3 := Nat.pow_le_pow_right (by omega) hk
  omega
theorem pa_num (l : List Nat) (h0 : 0 < l.length) (h4 : l.length ≤ 4) : pa (mask l.length (l.getD 0 0)) l (l.length - 1) = Utf.num l := by
  match l, h0, h4 with
  | [a], _, _ => simp [pa, mask, Utf.num]
  | [a, b], _, _ => simp [pa, mask, Utf.num]; omega
  | [a, b, c], _, _ => simp [pa, mask, Utf.num]; omega
  | [a, b, c, d], _, _ => simp [pa, mask, Utf.num]; omega
theorem mask_lt (L b : Nat) (h : b < 256) : mask L b < 256 := by
  unfold mask; repeat' split
  all_goals omega
set_option maxRecDepth 100000 in
set_option maxHeartbeats 1000000 in
theorem number_at (s : ByteArray) (w : World) (L h b : Nat) (hs : s.size = L) (h0 : 0 < L) (h4 : L ≤ 4) (hh : h = mask L b) (hb : b = (bl s).getD 0 0) :
    Calls Tryz.prog 158 #[.string s] w fun e w' => e = .returned (.int .i32 (pa h (bl s) (L - 1) : Nat)) ∧ w = w' := by
  have hb0 := bl_at s 0 (by omega)
  have hlt := Utf.getD_byte (bl_byte s) 0
  rw [← hb] at hb0 hlt
  have hh' : h < 256 := by rw [hh]; exact mask_lt L b hlt
  have HB := Lib.hid (fun k h => bl_at s k h)
  have HP := Lib.hid (fun k hk => pa_small h (bl s) hh' k hk)
  have HC := Lib.hid (fun k => Utf.getD_byte (bl_byte s) k)
  have hd1 : decide (0 < s.size) = true := by simp; omega
  have hsz : s.size ≤ 4 := by omega
  have hp0 : pa h (bl s) 0 = h := rfl
  clear hb
  rcases (show L = 1 ∨ L = 2 ∨ L = 3 ∨ L = 4 by omega) with e | e | e | e
  all_goals
    subst e
    simp only [mask, if_true, if_false, Nat.reduceEqDiff] at hh
    have HH := Lib.hid hh
    have HS := Lib.hid hs
    clear hh hp0
    go_enter Tryz.func158, Tryz.ntmps158
    go_wp2
    go_loop [3, 4] (fun n i => ∃ k : Nat, k + 1 ≤ s.size ∧ i = .int .i64 ((k : Int) + 1) ∧ n = .int .i64 (pa h (bl s) k : Nat)) (fun _ i => s.size - (intOf i).toNat)
    case atStart => exact ⟨0, by omega, rfl, by rw [show pa h (bl s) 0 = h from rfl, HH.out]; try simp⟩
    case round =>
      obtain ⟨k, hk, rfl, rfl⟩ := hrel
      have hp := HP.out k (by omega)
      have HE := Lib.hid (show pa h (bl s) (k + 1) = 64 * pa h (bl s) k + (bl s).getD (k + 1) 0 % 64 from rfl)
      by_cases hlt : k + 1 < s.size
      · have hx := HB.out (k + 1) hlt
        have hx2 := HC.out (k + 1)
        have hlt' : (k : Int) + 1 < s.size := by omega
        generalize (bl s).getD (k + 1) 0 = d at *
        generalize hq : pa h (bl s) k = q at *
        have HQ := Lib.hid hq
        clear hq hb0 hs
        go_wp2
        go_round
        case rel => exact ⟨k + 1, by omega, by go_num, by rw [HE.out]; simp⟩
        case measure => simp [intOf]; omega
      · have hlt' : ¬ ((k : Int) + 1 < s.size) := by omega
        have hk0 : k = s.size - 1 := by omega
        generalize hq : pa h (bl s) k = q at *
        have HF := Lib.hid (show pa h (bl s) (s.size - 1) = q by rw [← hk0]; exact hq)
        clear hb0 hs HE hq hk0
        go_wp2
        go_ret
        exact ⟨ret_int (by rw [← HF.out, HS.out]), rfl⟩
theorem number (s : ByteArray) (w : World) (h0 : 0 < s.size) (h4 : s.size ≤ 4) :
    Calls Tryz.prog 158 #[.string s] w fun e w' => e = .returned (.int .i32 (Utf.num (bl s) : Nat)) ∧ w = w' := by
  have h := number_at s w s.size _ _ rfl h0 h4 rfl rfl
  have h2 := pa_num (bl s) (by rw [bl_length]; omega) (by rw [bl_length]; omega)
  rw [bl_length] at h2
  rwa [h2] at h
end Go.Proofs.YtanjdjiigfdnmaaGreatDoor
