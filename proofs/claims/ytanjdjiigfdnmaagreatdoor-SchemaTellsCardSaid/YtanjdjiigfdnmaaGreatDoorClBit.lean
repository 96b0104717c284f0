/- The program's kinds: bits of bools and whole numbers, and what is taken off. -/
import Derived.Test.YtanjdjiigfdnmaaGreatDoorClRet
namespace Go.Proofs.YtanjdjiigfdnmaaGreatDoor
open Go.RowKit
set_option linter.unusedVariables false
set_option maxRecDepth 100000

theorem cBoolBits (c : Cl.C) (w : World) (t : ByteArray) (ht : (if c.n = 1 then (⟨#[1]⟩ : ByteArray) else ⟨#[0]⟩) = t) : Calls Tryz.prog 111 #[cv c] w fun e w' => e = .returned (.string t) ∧ Below w.heap.size w w' := by
  obtain ⟨u, n, s⟩ := c
  unfold cv
  simp only at ht ⊢
  by_cases h : n = 1
  · subst h
    obtain rfl : ⟨#[1]⟩ = t := by simpa using ht
    clear ht
    go_enter Tryz.func111, Tryz.ntmps111
    go_wp2_with fail
    go_ret
    exact ⟨rfl, box_new _ _⟩
  · have h2 : (n == 1) = false := by simpa using h
    obtain rfl : ⟨#[0]⟩ = t := by simpa [h] using ht
    clear ht
    go_enter Tryz.func111, Tryz.ntmps111
    go_wp2_with fail
    go_ret
    exact ⟨rfl, box_new _ _⟩
/-- A first byte that says yes or no. -/
def ty (l : List Nat) : Bool × Nat × Nat := if l = [] then (false, 0, 3) else if l.getD 0 0 = 1 then (true, 1, 0) else if l.getD 0 0 = 0 then (false, 1, 0) else (false, 0, 4)
theorem pre1 (s : ByteArray) (c : UInt8) : Lib.hasPrefix s.data.toList [c] = decide (bl s ≠ [] ∧ (bl s).getD 0 0 = c.toNat) := by
  unfold Lib.hasPrefix bl
  cases s.data.toList with
  | nil => simp [List.isPrefixOf]
  | cons b t =>
    rw [Bool.eq_iff_iff]
    simp [List.isPrefixOf]
    rw [← UInt8.toNat_inj]; exact eq_comm
theorem cTakeYes (s : ByteArray) (w : World) (b : Bool) (n e0 : Nat) (hr : ty (bl s) = (b, n, e0)) : Calls Tryz.prog 142 #[.string s] w fun e w' => e = .returned (.tuple #[.bool b, .int .i64 (n : Nat), .int .i64 (e0 : Nat)]) ∧ w' = w := by
  unfold ty at hr
  have p1 := pre1 s 1
  have p0 := pre1 s 0
  by_cases h0 : bl s = []
  · rw [if_pos h0] at hr
    simp only [Prod.mk.injEq] at hr
    obtain ⟨rfl, rfl, rfl⟩ := hr
    have q2 : s.toList.isEmpty = true := by rw [bl_empty]; simp [h0]
    have q1 : s.toList = [] := by simpa using q2
    clear p1 p0 h0
    go_enter Tryz.func142, Tryz.ntmps142
    go_wp2_with fail
    go_ret3
    exact ⟨rfl, rfl⟩
  · rw [if_neg h0] at hr
    have q2 : s.toList.isEmpty = false := by rw [bl_empty]; simp [h0]
    have q3 : ¬ s.toList = [] := by simpa using q2
    by_cases h1 : (bl s).getD 0 0 = 1
    · rw [if_pos h1] at hr
      simp only [Prod.mk.injEq] at hr
      obtain ⟨rfl, rfl, rfl⟩ := hr
      have C1 := Lib.hid (fun w => Tryz.strings_HasPrefix s ⟨#[1]⟩ w)
      have P1 := Lib.hid (show Lib.hasPrefix s.data.toList [1] = true by rw [p1]; exact decide_eq_true ⟨h0, h1⟩)
      clear p1 p0 h0 h1
      go_enter Tryz.func142, Tryz.ntmps142
      go_wp2_with fail
      ((with_reducible refine (C1.out _).mono ?_); rintro e w1 ⟨rfl, rfl⟩)
      rw [P1.out]
      go_wp2_with fail
      go_ret3
      exact ⟨rfl, rfl⟩
    · rw [if_neg h1] at hr
      have C1 := Lib.hid (fun w => Tryz.strings_HasPrefix s ⟨#[1]⟩ w)
      have C0 := Lib.hid (fun w => Tryz.strings_HasPrefix s ⟨#[0]⟩ w)
      have P1 := Lib.hid (show Lib.hasPrefix s.data.toList [1] = false by rw [p1]; exact decide_eq_false fun h => h1 h.2)
      by_cases h2 : (bl s).getD 0 0 = 0
      · rw [if_pos h2] at hr
        simp only [Prod.mk.injEq] at hr
        obtain ⟨rfl, rfl, rfl⟩ := hr
        have P0 := Lib.hid (show Lib.hasPrefix s.data.toList [0] = true by rw [p0]; exact decide_eq_true ⟨h0, h2⟩)
        clear p1 p0 h0 h1 h2
        go_enter Tryz.func142, Tryz.ntmps142
        go_wp2_with fail
        ((with_reducible refine (C1.out _).mono ?_); rintro e w1 ⟨rfl, rfl⟩)
        rw [P1.out]
        go_wp2_with fail
        ((with_reducible refine (C0.out _).mono ?_); rintro e w1 ⟨rfl, rfl⟩)
        rw [P0.out]
        go_wp2_with fail
        go_ret3
        exact ⟨rfl, rfl⟩
      · rw [if_neg h2] at hr
        simp only [Prod.mk.injEq] at hr
        obtain ⟨rfl, rfl, rfl⟩ := hr
        have P0 := Lib.hid (show Lib.hasPrefix s.data.toList [0] = false by rw [p0]; exact decide_eq_false fun h => h2 h.2)
        clear p1 p0 h0 h1 h2
        go_enter Tryz.func142, Tryz.ntmps142
        go_wp2_with fail
        ((with_reducible refine (C1.out _).mono ?_); rintro e w1 ⟨rfl, rfl⟩)
        rw [P1.out]
        go_wp2_with fail
        ((with_reducible refine (C0.out _).mono ?_); rintro e w1 ⟨rfl, rfl⟩)
        rw [P0.out]
        go_wp2_with fail
        go_ret3
        exact ⟨rfl, rfl⟩
theorem cTakeBool (s : ByteArray) (w : World) (b : Bool) (n e0 : Nat) (hr : ty (bl s) = (b, n, e0)) : Calls Tryz.prog 112 #[.string s] w fun e w' => e = .returned (.tuple #[cv ⟨false, if b = true then 1 else 0, ⟨#[]⟩⟩, .int .i64 (n : Nat), .int .i64 (e0 : Nat)]) ∧ Below w.heap.size w w' := by
  have C := Lib.hid (fun w => cTakeYes s w b n e0 hr)
  clear hr
  cases b with
  | true =>
    go_enter Tryz.func112, Tryz.ntmps112
    go_wp2_with fail
    ((with_reducible refine (C.out _).mono ?_); rintro e w1 ⟨rfl, rfl⟩)
    go_wp2_with fail
    exact bodyPost_ret (ret3 rfl _ _ w.heap.size _ rfl (heap_alloc_new w _)) rfl ⟨rfl, box_new _ _⟩
  | false =>
    go_enter Tryz.func112, Tryz.ntmps112
    go_wp2_with fail
    ((with_reducible refine (C.out _).mono ?_); rintro e w1 ⟨rfl, rfl⟩)
    go_wp2_with fail
    exact bodyPost_ret (ret3 rfl _ _ w.heap.size _ rfl (heap_alloc_new w _)) rfl ⟨rfl, box_new _ _⟩
theorem un_turn (m : Nat) (h : m < 18446744073709551616) : wrap64 (IntKind.u64.wrap ((m : Int) - 9223372036854775808)) = (m : Int) - 9223372036854775808 := by
  rw [IntKind.wrap_u64]
  simp only [wrap64]
  omega
theorem or_low (a b : Nat) (ha : a < 72057594037927936) (hb : b < 256) : bits BinOp.or IntKind.u64 ((a : Int) * 256) ((b : Nat) : Int) = ((256 * a + b : Nat) : Int) := by
  rw [show (a : Int) * 256 = ((256 * a : Nat) : Int) by omega]
  show IntKind.u64.wrap ((BitVec.ofInt 64 ((256 * a : Nat) : Int) ||| BitVec.ofInt 64 ((b : Nat) : Int)).toNat : Int) = _
  rw [BitVec.toNat_or, BitVec.ofInt_natCast, BitVec.ofInt_natCast, BitVec.toNat_ofNat, BitVec.toNat_ofNat, Nat.mod_eq_of_lt (by omega), Nat.mod_eq_of_lt (by omega)]
  have h : 256 * a ||| b = 256 * a + b := by
    rw [show 256 * a = a <<< 8 by rw [Nat.shiftLeft_eq, Nat.mul_comm], Nat.shiftLeft_add_eq_or_of_lt (by omega)]
  rw [h, IntKind.wrap_u64]; omega
theorem num8_snoc (l : List Nat) (b : Nat) : Cl.num8 (l ++ [b]) = 256 * Cl.num8 l + b := by simp [Cl.num8]
theorem num8_go : ∀ (l : List Nat) (a n : Nat), a < 256 ^ n → (∀ x ∈ l, x < 256) → l.foldl (fun a b => 256 * a + b) a < 256 ^ (n + l.length)
  | [], a, n, h, _ => h
  | b :: l, a, n, h, hl => by
    have h2 := hl b (by simp)
    have := num8_go l (256 * a + b) (n + 1) (by rw [Nat.pow_succ]; omega) fun x hx => hl x (by simp [hx])
    rw [List.foldl_cons, List.length_cons, show n + (l.length + 1) = n + 1 + l.length by omega]
    exact this
theorem num8_lt (n : Nat) (l : List Nat) (hn : l.length = n) (h : ∀ x ∈ l, x < 256) : Cl.num8 l < 256 ^ n := by
  have := num8_go l 0 0 (by decide) h
  rw [Nat.zero_add, hn] at this
  exact this
theorem take_snoc (l : List Nat) (k : Nat) (h : k < l.length) : l.take (k + 1) = l.take k ++ [l.getD k 0] := by
  rw [List.take_add_one, List.getElem?_eq_getElem h]; simp [List.getElem?_eq_getElem h]
set_option maxHeartbeats 4000000 in
theorem cTakeWhole (s : ByteArray) (w : World) (hm : s.size ≤ 1000000) (c : Cl.C) (n e0 : Nat)
    (hr : (if s.size < 8 then (Cl.empty, 0, 3) else ((⟨false, (Cl.num8 ((bl s).take 8) : Int) - 9223372036854775808, ⟨#[]⟩⟩ : Cl.C), 8, 0)) = (c, n, e0)) :
    Calls Tryz.prog 117 #[.string s] w fun e w' => e = .returned (.tuple #[cv c, .int .i64 (n : Nat), .int .i64 (e0 : Nat)]) ∧ Below w.heap.size w w' := by
  by_cases h8 : s.size < 8
  · rw [if_pos h8] at hr
    simp only [Prod.mk.injEq] at hr
    obtain ⟨rfl, rfl, rfl⟩ := hr
    have h9 : (s.size : Int) < 8 := by omega
    go_enter Tryz.func117, Tryz.ntmps117
    go_wp2_with fail
    exact bodyPost_ret (ret3 rfl _ _ w.heap.size Cl.empty rfl (heap_alloc_new w _)) rfl ⟨rfl, box_new _ _⟩
  · rw [if_neg h8] at hr
    simp only [Prod.mk.injEq] at hr
    obtain ⟨rfl, rfl, rfl⟩ := hr
    have h9 : ¬ (s.size : Int) < 8 := by omega
    have hk : ∀ k, k ≤ 8 → Cl.num8 ((bl s).take k) < 256 ^ k := fun k hk => by
      exact num8_lt k ((bl s).take k) (by rw [List.length_take, bl_length, Nat.min_eq_left (by omega)]) (fun x hx => bl_byte s x (List.mem_of_mem_take hx))
    have hs : ∀ k, k < 8 → Cl.num8 ((bl s).take (k + 1)) = 256 * Cl.num8 ((bl s).take k) + (bl s).getD k 0 := fun k h => by
      rw [take_snoc _ _ (by rw [bl_length]; omega), num8_snoc]
    have HK := Lib.hid hk
    have HS := Lib.hid hs
    clear hk hs
    go_enter Tryz.func117, Tryz.ntmps117
    go_wp2_with fail
    go_loopw [5, 6, 11] (fun a b i wr => ∃ k : Nat, k ≤ 8 ∧ i = .int .i64 k ∧ a = .int .u64 (Cl.num8 ((bl s).take k) : Nat) ∧ Hid (CV wr w.heap.size ⟨false, 0, ⟨#[]⟩⟩) ∧ Hid (Below w.heap.size w wr)) (fun a b i _ => 8 - (intOf i).toNat)
    case atStart => exact ⟨0, by omega, rfl, rfl, Lib.hid (CV.new w _ _ _), Lib.hid (box_new _ _)⟩
    case round =>
      obtain ⟨k, hk, rfl, rfl, HV, HB⟩ := hrel
      by_cases hlt : k < 8
      · have hb := bl_byte s ((bl s).getD k 0) (by rw [List.getD_eq_getElem?_getD, List.getElem?_eq_getElem (by rw [bl_length]; omega)]; simp)
        have h1 := HK.out k (by omega)
        have h2 := HS.out k hlt
        have h7 : Cl.num8 ((bl s).take k) < 72057594037927936 := Nat.lt_of_lt_of_le h1 (by
          have := Nat.pow_le_pow_right (show 0 < 256 by omega) (show k ≤ 7 by omega)
          omega)
        have h3 := or_low _ _ h7 hb
        have h4 := bl_at s k (by omega)
        generalize Cl.num8 ((bl s).take k) = m at *
        generalize (bl s).getD k 0 = b at *
        have H2 := Lib.hid h2
        clear h1 h2
        go_wp2_with fail
        refine ⟨⟨k + 1, by omega, by go_num, congrArg (Value.int IntKind.u64) ?_, HV, HB⟩, by simp [intOf]; omega⟩
        rw [H2.out]; omega
      · have hk9 : ¬ (k : Int) < 8 := by omega
        have K8 := Lib.hid (show k = 8 by omega)
        obtain ⟨k0, k1, k2⟩ := HV.out.lie
        obtain ⟨f0, f1, f2⟩ := HV.out.free
        clear hlt hk
        go_wp2_with fail
        have hz := un_turn _ (show Cl.num8 ((bl s).take k) < 18446744073709551616 by rw [K8.out]; exact HK.out 8 (by omega))
        rw [hz, K8.out]
        exact bodyPost_ret (ret3 rfl _ _ w.heap.size _ rfl (HV.out.put _ _ _).heap) rfl ⟨rfl, put_below (Nat.le_refl _) HB.out _ _ _⟩
theorem run_row (w : World) (g : Nat) (t : TypeId) (l : List Nat) (n : Nat) (hl : l.length = n) (hb : ∀ x ∈ l, x < 256) (hn : n ≤ 1000) (h : Blk w g t (vals l)) : (convert 118 9 (.slice (some ⟨g, 0, none⟩) n n)).run Tryz.prog w = .ok (.string (str l)) w := by
  subst hl
  refine run_str w w.heap.size _ l ⟨_, _, rfl, Nat.le_refl _, by simp only [maxLen]; omega, by simp, hb, fun _ => ⟨g, 0, rfl, h.lt, fun k hk => ?_⟩⟩
  rw [Nat.zero_add, h.cell k]
  simp [vals, List.getElem?_eq_getElem hk]
theorem shl_rest (m k : Nat) (hk : k < 8) (hm : m < 18446744073709551616) : (m * 256 ^ k % 18446744073709551616) / 72057594037927936 = (Cl.be m).getD k 0 ∧ (m * 256 ^ k % 18446744073709551616) * 256 % 18446744073709551616 = m * 256 ^ (k + 1) % 18446744073709551616 := by
  rcases (show k = 0 ∨ k = 1 ∨ k = 2 ∨ k = 3 ∨ k = 4 ∨ k = 5 ∨ k = 6 ∨ k = 7 by omega) with rfl | rfl | rfl | rfl | rfl | rfl | rfl | rfl <;> simp only [Cl.be, List.getD_cons_zero, List.getD_cons_succ] <;> omega
def part8 (m k : Nat) : List Nat := (Cl.be m).take k ++ List.replicate (8 - k) 0
theorem part8_put (m k : Nat) (hk : k < 8) : (vals (part8 m k)).set k (.int .u8 ((Cl.be m).getD k 0 : Nat)) = vals (part8 m (k + 1)) := by
  rcases (show k = 0 ∨ k = 1 ∨ k = 2 ∨ k = 3 ∨ k = 4 ∨ k = 5 ∨ k = 6 ∨ k = 7 by omega) with rfl | rfl | rfl | rfl | rfl | rfl | rfl | rfl <;> rfl
set_option maxHeartbeats 4000000 in
theorem cWholeBits (c : Cl.C) (w : World) (hi : Cl.I64 c.n) (t : ByteArray) (ht : str (Cl.be (Cl.turn c.n)) = t) : Calls Tryz.prog 116 #[cv c] w fun e w' => e = .returned (.string t) ∧ Below w.heap.size w w' := by
  obtain ⟨u, n, s⟩ := c
  unfold cv
  simp only at ht hi ⊢
  obtain ⟨m, hm⟩ : ∃ m, Cl.turn n = m := ⟨_, rfl⟩
  have hm1 : m < 18446744073709551616 := by rw [← hm]; exact Cl.turn_lt hi
  have hm2 : IntKind.u64.wrap (IntKind.u64.wrap n + 9223372036854775808) = (m : Int) := by
    unfold Cl.turn at hm
    unfold Cl.I64 at hi
    rw [IntKind.wrap_u64, IntKind.wrap_u64]; omega
  rw [hm] at ht
  have HT := Lib.hid ht
  have HR := Lib.hid (fun k hk => shl_rest m k hk hm1)
  clear hm hi ht
  go_enter Tryz.func116, Tryz.ntmps116
  go_wp2_with fail
  have B0 := Lib.hid (((box_new w (.cells #[.bool u, .int .i64 n, .string s] 34)).alloc (by simp) (.cells #[.int .u8 0, .int .u8 0, .int .u8 0, .int .u8 0, .int .u8 0, .int .u8 0, .int .u8 0, .int .u8 0] 160)))
  have K0 := Lib.hid (show Blk _ (w.heap.size + 1) 160 (vals (part8 m 0)) from (by
    have := Blk.new (w.alloc (.cells #[.bool u, .int .i64 n, .string s] 34)) 160 #[.int .u8 0, .int .u8 0, .int .u8 0, .int .u8 0, .int .u8 0, .int .u8 0, .int .u8 0, .int .u8 0]
    rw [show (w.alloc (.cells #[.bool u, .int .i64 n, .string s] 34)).heap.size = w.heap.size + 1 by simp] at this
    exact this))
  go_loopw [3, 5, 10] (fun r a i wr => ∃ k : Nat, k ≤ 8 ∧ i = .int .i64 k ∧ r = .int .u64 (m * 256 ^ k % 18446744073709551616 : Nat) ∧ Hid (Blk wr (w.heap.size + 1) 160 (vals (part8 m k))) ∧ Hid (Below w.heap.size w wr)) (fun r a i _ => 8 - (intOf i).toNat)
  case atStart => exact ⟨0, by omega, rfl, by rw [Nat.pow_zero, Nat.mul_one, Nat.mod_eq_of_lt hm1], K0, B0⟩
  case round =>
    obtain ⟨k, hk, rfl, rfl, HK, HB⟩ := hrel
    by_cases hlt : k < 8
    · obtain ⟨h1, h2⟩ := HR.out k hlt
      have P := part8_put m k hlt
      have hb := Cl.be_byte m ((Cl.be m).getD k 0) (by rw [List.getD_eq_getElem?_getD, List.getElem?_eq_getElem (by rw [Cl.be_len]; omega)]; simp)
      generalize m * 256 ^ k % 18446744073709551616 = q at *
      generalize (Cl.be m).getD k 0 = b at *
      have hq : (q : Int) / 72057594037927936 = (b : Int) := by omega
      have hf := HK.out.frozen k
      have hc : wr.cell? ⟨w.heap.size + 1, k, none⟩ = some (.int .u8 ((part8 m k).getD k 0 : Nat)) := by
        rw [HK.out.cell k]
        have : k < (part8 m k).length := by unfold part8; rw [List.length_append, List.length_take, Cl.be_len, List.length_replicate]; omega
        simp [vals, List.getElem?_eq_getElem this]
      have H2 := Lib.hid h2
      have HP := Lib.hid P
      clear h1 h2 P
      go_wp2_with fail
      refine ⟨⟨k + 1, by omega, by go_num, congrArg (Value.int IntKind.u64) ?_, Lib.hid ?_, Lib.hid (HB.out.setCell (by simp) _)⟩, by simp [intOf]; omega⟩
      · rw [← H2.out, IntKind.wrap_u64]; omega
      · have := HK.out.put k (.int .u8 (b : Nat))
        rw [HP.out] at this
        exact this
    · have hk9 : ¬ (k : Int) < 8 := by omega
      have K8 := Lib.hid (show k = 8 by omega)
      have HC := Lib.hid (fun ht => run_row wr (w.heap.size + 1) 160 (Cl.be m) 8 (Cl.be_len m) (Cl.be_byte m) (by omega) ht)
      have hc := HC.out (by
        have := HK.out
        rw [K8.out] at this
        exact this)
      clear hlt hk
      go_wp2_with fail
      go_ret
      exact ⟨congrArg (fun x => Ending.returned (Value.string x)) HT.out, HB.out⟩
end Go.Proofs.YtanjdjiigfdnmaaGreatDoor
