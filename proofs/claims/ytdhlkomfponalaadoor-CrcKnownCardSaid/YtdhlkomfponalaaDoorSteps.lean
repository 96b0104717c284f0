/- The functions of layer 2 that only reckon: zeroByte, Update, Sum, and the reference's step, take, Update, Sum. What zeroByte asks of the memory is that the table lies there as it is written out. -/
import Derived.Test.YtdhlkomfponalaaDoorCopy
namespace Go.Proofs.YtdhlkomfponalaaDoor
open Go.RowKit
set_option linter.unusedVariables false

/-- The table lies in its place. -/
def Tab (w : World) : Prop := ∀ i, i < 16 → w.cell? ⟨0, i, none⟩ = some (.int .u32 (Crc.tab.getD i 0 : Nat))
theorem Tab.size {w : World} (h : Tab w) : 0 < w.heap.size := by
  have h0 := h 0 (by omega)
  rcases Nat.lt_or_ge 0 w.heap.size with hlt | hge
  · exact hlt
  · simp [World.cell?, Array.getElem?_eq_none hge] at h0
theorem Tab.below {w w' : World} {B : Nat} (h : Tab w) (hB : 0 < B) (hb : Below B w w') : Tab w' := fun i hi => (hb.cell (p := ⟨0, i, none⟩) hB).trans (h i hi)
theorem Tab.later {w w' : World} (h : Tab w) (hb : Below w.heap.size w w') : Tab w' := h.below h.size hb
theorem Tab.at {w : World} (h : Tab w) (n : Nat) : w.cell? ⟨0, n % 16, none⟩ = some (.int .u32 (Crc.zs 4 (n % 16) : Nat)) := by
  have := h (n % 16) (by omega)
  rwa [Crc.tab_is ⟨n % 16, by omega⟩] at this

theorem and15 (n : Nat) (h : n < 4294967296) : bits BinOp.and IntKind.u32 (n : Int) 15 = ((n % 16 : Nat) : Int) := by
  have := u32_and_nat n 15 h (by omega)
  rw [show n &&& 15 = n % 16 from Nat.and_two_pow_sub_one_eq_mod n 4] at this
  exact this
theorem xor32 (a b : Nat) (ha : a < 4294967296) (hb : b < 4294967296) : bits BinOp.xor IntKind.u32 (a : Int) (b : Int) = ((a ^^^ b : Nat) : Int) := u32_xor_nat a b ha hb

set_option maxHeartbeats 400000 in
theorem zeroByte (n : Nat) (w : World) (h : n < 4294967296) (T : Tab w) :
    Calls Tryd.prog 22 #[.int .u32 n] w fun e w' => e = .returned (.int .u32 (Crc.zs 8 n : Nat)) ∧ w = w' := by
  have h4 := Crc.zs_lt 4 n h
  have c1 := T.at n
  have c2 := T.at (Crc.zs 4 n)
  have a1 := and15 n h
  have a2 := and15 _ h4
  have x1 : bits BinOp.xor IntKind.u32 ((n : Int) / 16) ((Crc.zs 4 (n % 16) : Nat) : Int) = ((Crc.zs 4 n : Nat) : Int) := by
    rw [show (n : Int) / 16 = ((n / 16 : Nat) : Int) by omega, xor32 _ _ (by omega) (Crc.zs_lt _ _ (by omega)), Crc.zs_half]
  have x2 : bits BinOp.xor IntKind.u32 (((Crc.zs 4 n : Nat) : Int) / 16) ((Crc.zs 4 (Crc.zs 4 n % 16) : Nat) : Int) = ((Crc.zs 8 n : Nat) : Int) := by
    rw [show ((Crc.zs 4 n : Nat) : Int) / 16 = ((Crc.zs 4 n / 16 : Nat) : Int) by omega, xor32 _ _ (by omega) (Crc.zs_lt _ _ (by omega)), Crc.zs_byte]
  generalize Crc.zs 8 n = r at *
  go_enter Tryd.func22, Tryd.ntmps22
  go_wp2
  go_ret
  exact ⟨rfl, rfl⟩

theorem flip_i (n : Nat) (h : n < 4294967296) : bits BinOp.xor IntKind.u32 IntKind.u32.max (n : Int) = ((Crc.flip n : Nat) : Int) :=
  (u32_xor_nat 4294967295 n (by omega) h).trans (by unfold Crc.flip; rw [Nat.xor_comm])

set_option maxHeartbeats 400000 in
theorem update (s : Nat) (v : Value) (l : List Nat) (w : World) (hs : s < 4294967296) (h : Rd w w.heap.size v l) (T : Tab w) :
    Calls Tryd.prog 14 #[.int .u32 s, v] w fun e w' => e = .returned (.int .u32 (Crc.upd s l : Nat)) ∧ w = w' := by
  have hm := h.len
  unfold maxLen at hm
  obtain ⟨a, c, rfl, h1, h2, h3, h4, h5⟩ := id h
  clear h
  have H5 := Lib.hid h5
  have H4 := Lib.hid h4
  clear h3 h4 h5 h2 h1
  have f1 := Crc.flip_lt s hs
  have HT := Lib.hid T
  clear T
  go_enter Tryd.func14, Tryd.ntmps14
  go_wp2
  go_loop [5, 12] (fun r i => ∃ k reg : Nat, k ≤ l.length ∧ i = .int .i64 k ∧ r = .int .u32 reg ∧ reg < 4294967296 ∧ Hid (Crc.take reg (l.drop k) = Crc.take (Crc.flip s) l)) (fun _ i => l.length - (intOf i).toNat)
  case atStart => exact ⟨0, Crc.flip s, Nat.zero_le _, rfl, by rw [← flip_i s hs], f1, Lib.hid rfl⟩
  case round =>
    obtain ⟨k, reg, hk, rfl, rfl, hreg, HD⟩ := hrel
    by_cases hlt : k < l.length
    · obtain ⟨b, off, rfl, _, hc⟩ := H5.out (by omega)
      have hd := H4.out (l.getD k 0) (by simp [List.getElem?_eq_getElem hlt])
      have hcell := hc k hlt
      clear hc
      have hdrop : l.drop k = l.getD k 0 :: l.drop (k + 1) := by
        rw [List.drop_eq_getElem_cons hlt]; simp [List.getElem?_eq_getElem hlt]
      rw [hdrop] at HD
      clear hdrop H5 H4
      generalize l.getD k 0 = d at *
      have x1 := xor32 reg d hreg (by omega)
      have hx : reg ^^^ d < 4294967296 := Nat.xor_lt_two_pow (n := 32) hreg (by omega)
      go_wp2_with fail
      refine (zeroByte (reg ^^^ d) _ hx HT.out).mono ?_
      rintro e w' ⟨rfl, rfl⟩
      go_wp2
      go_round
      case rel => exact ⟨k + 1, Crc.zs 8 (reg ^^^ d), by omega, by go_num, rfl, Crc.zs_lt _ _ hx, Lib.hid HD.out⟩
      case measure => simp [intOf]; omega
    · have HE : Hid (reg = Crc.take (Crc.flip s) l) := Lib.hid (by rw [← HD.out, List.drop_eq_nil_of_le (by omega), Crc.take])
      go_wp2
      go_ret
      exact ⟨congrArg Ending.returned (congrArg (Value.int IntKind.u32) (by unfold Crc.upd; rw [← HE.out]; exact flip_i reg hreg)), rfl⟩
set_option maxHeartbeats 400000 in
theorem sum (v : Value) (l : List Nat) (w : World) (h : Rd w w.heap.size v l) (T : Tab w) :
    Calls Tryd.prog 12 #[v] w fun e w' => e = .returned (.int .u32 (Crc.upd 0 l : Nat)) ∧ w = w' := by
  go_enter Tryd.func12, Tryd.ntmps12
  go_wp2_with fail
  refine (update 0 v l _ (by omega) h T).mono ?_
  rintro e w' ⟨rfl, rfl⟩
  go_wp2
  go_ret
  exact ⟨rfl, rfl⟩

theorem step_is (r b : Nat) (hr : r < 4294967296) (hb : b < 2) : Crc.z (r ^^^ b) = if r % 2 = b then r / 2 else r / 2 ^^^ 2197175160 := by
  unfold Crc.z
  rw [Crc.xor_half, Crc.xor_odd, show b / 2 = 0 by omega, Nat.xor_zero]
  split <;> split
  · omega
  · rfl
  · rw [Nat.xor_zero]
  · omega

set_option maxHeartbeats 400000 in
theorem rstep (r b : Nat) (w : World) (hr : r < 4294967296) (hb : b < 2) :
    Calls Tryd.prog 28 #[.int .u32 r, .int .u32 b] w fun e w' => e = .returned (.int .u32 (Crc.z (r ^^^ b) : Nat)) ∧ w = w' := by
  have HS := Lib.hid (step_is r b hr hb)
  by_cases h : r % 2 = b
  · have h' : (((r : Int) % 2) != (b : Int)) = false := by rw [bne_eq_false_iff_eq]; omega
    rw [if_pos h] at HS
    clear h
    go_enter Tryd.func28, Tryd.ntmps28
    go_wp2
    go_ret
    exact ⟨congrArg Ending.returned (congrArg (Value.int IntKind.u32) (by rw [HS.out]; omega)), rfl⟩
  · have h' : (((r : Int) % 2) != (b : Int)) = true := by rw [bne_iff_ne]; omega
    rw [if_neg h] at HS
    have X := Lib.hid (xor32 (r / 2) 2197175160 (by omega) (by omega))
    clear h
    go_enter Tryd.func28, Tryd.ntmps28
    go_wp2
    go_ret
    exact ⟨congrArg Ending.returned (congrArg (Value.int IntKind.u32) (by rw [HS.out, ← X.out]; rfl)), rfl⟩

set_option maxHeartbeats 1000000 in
theorem rtake (r : Nat) (v : Value) (l : List Nat) (w : World) (hr : r < 4294967296) (h : Rd w w.heap.size v l) :
    Calls Tryd.prog 23 #[.int .u32 r, v] w fun e w' => e = .returned (.int .u32 (Crc.take r l : Nat)) ∧ w = w' := by
  have hm := h.len
  unfold maxLen at hm
  obtain ⟨a, c, rfl, h1, h2, h3, h4, h5⟩ := id h
  clear h
  have H5 := Lib.hid h5
  have H4 := Lib.hid h4
  clear h3 h4 h5 h2 h1
  go_enter Tryd.func23, Tryd.ntmps23
  go_wp2
  go_loop [0, 5] (fun r' i => ∃ k reg : Nat, k ≤ l.length ∧ i = .int .i64 k ∧ r' = .int .u32 reg ∧ reg < 4294967296 ∧ Hid (Crc.take reg (l.drop k) = Crc.take r l)) (fun _ i => l.length - (intOf i).toNat)
  case atStart => exact ⟨0, r, Nat.zero_le _, rfl, rfl, hr, Lib.hid rfl⟩
  case round =>
    obtain ⟨k, reg, hk, rfl, rfl, hreg, HD⟩ := hrel
    by_cases hlt : k < l.length
    · obtain ⟨b, off, rfl, _, hc⟩ := H5.out (by omega)
      have hd := H4.out (l.getD k 0) (by simp [List.getElem?_eq_getElem hlt])
      have hcell := hc k hlt
      clear hc
      have hdrop : l.drop k = l.getD k 0 :: l.drop (k + 1) := by
        rw [List.drop_eq_getElem_cons hlt]; simp [List.getElem?_eq_getElem hlt]
      rw [hdrop] at HD
      clear hdrop
      generalize l.getD k 0 = d at *
      have hdl : decide ((k : Int) < (l.length : Int)) = true := by simp; omega
      go_wp2
      go_loop [0, 6, 7] (fun r' c' i => ∃ j reg' d' : Nat, j ≤ 8 ∧ i = .int .i64 j ∧ r' = .int .u32 reg' ∧ c' = .int .u32 d' ∧ reg' < 4294967296 ∧ d' < 2 ^ (8 - j) ∧ d' < 256 ∧ Hid (Crc.zs (8 - j) (reg' ^^^ d') = Crc.zs 8 (reg ^^^ d))) (fun _ _ i => 8 - (intOf i).toNat)
      case atStart => exact ⟨0, reg, d, by omega, rfl, rfl, rfl, hreg, hd, hd, Lib.hid rfl⟩
      case round =>
        obtain ⟨j, reg', d', hj, rfl, rfl, rfl, hreg', hd', hd8, HJ⟩ := hrel
        by_cases hlj : j < 8
        · have hz : Crc.z (reg' ^^^ d' % 2) < 4294967296 := Crc.z_lt _ (Nat.xor_lt_two_pow (n := 32) hreg' (by omega))
          have HD2 : Hid (d' / 2 < 2 ^ (8 - (j + 1))) := Lib.hid (by
            rw [show 8 - j = (8 - (j + 1)) + 1 by omega, Nat.pow_succ] at hd'; omega)
          have HN : Hid (Crc.zs (8 - (j + 1)) (Crc.z (reg' ^^^ d' % 2) ^^^ d' / 2) = Crc.zs 8 (reg ^^^ d)) := Lib.hid (by
            rw [← HJ.out, ← Crc.step_bit, show 8 - (j + 1) + 1 = 8 - j by omega])
          clear hd'
          go_wp2_with fail
          rw [show (d' : Int) % 2 = ((d' % 2 : Nat) : Int) by omega]
          refine (rstep reg' (d' % 2) _ hreg' (by omega)).mono ?_
          rintro e w' ⟨rfl, rfl⟩
          go_wp2
          go_round
          case rel => exact ⟨j + 1, Crc.z (reg' ^^^ d' % 2), d' / 2, by omega, by go_num, rfl, by go_num, hz, HD2.out, by omega, HN⟩
          case measure => simp [intOf]; omega
        · have e8 : j = 8 := by omega
          subst e8
          have d0 : d' = 0 := by simpa using hd'
          subst d0
          have HE : Hid (reg' = Crc.zs 8 (reg ^^^ d)) := Lib.hid (by rw [← HJ.out, Nat.xor_zero]; rfl)
          clear HJ hd'
          go_wp2
          go_round
          case rel => exact ⟨k + 1, reg', by omega, by go_num, rfl, hreg', Lib.hid (by rw [HE.out]; exact HD.out)⟩
          case measure => simp [intOf]; omega
    · have HE : Hid (reg = Crc.take r l) := Lib.hid (by rw [← HD.out, List.drop_eq_nil_of_le (by omega), Crc.take])
      go_wp2
      go_ret
      exact ⟨congrArg Ending.returned (congrArg (Value.int IntKind.u32) (by rw [HE.out])), rfl⟩

set_option maxHeartbeats 400000 in
theorem rupdate (s : Nat) (v : Value) (l : List Nat) (w : World) (hs : s < 4294967296) (hR : Rd w w.heap.size v l) :
    Calls Tryd.prog 15 #[.int .u32 s, v] w fun e w' => e = .returned (.int .u32 (Crc.upd s l : Nat)) ∧ w = w' := by
  have f1 := Crc.take_lt l _ (Crc.flip_lt s hs) hR.bytes
  go_enter Tryd.func15, Tryd.ntmps15
  go_wp2_with fail
  rw [flip_i s hs]
  refine (rtake (Crc.flip s) v l _ (Crc.flip_lt s hs) hR).mono ?_
  rintro e w' ⟨rfl, rfl⟩
  go_wp2
  go_ret
  exact ⟨congrArg Ending.returned (congrArg (Value.int IntKind.u32) (by unfold Crc.upd; exact flip_i _ f1)), rfl⟩

set_option maxHeartbeats 400000 in
theorem rsum (v : Value) (l : List Nat) (w : World) (h : Rd w w.heap.size v l) :
    Calls Tryd.prog 13 #[v] w fun e w' => e = .returned (.int .u32 (Crc.upd 0 l : Nat)) ∧ w = w' := by
  go_enter Tryd.func13, Tryd.ntmps13
  go_wp2_with fail
  refine (rupdate 0 v l _ (by omega) h).mono ?_
  rintro e w' ⟨rfl, rfl⟩
  go_wp2
  go_ret
  exact ⟨rfl, rfl⟩
end Go.Proofs.YtdhlkomfponalaaDoor
