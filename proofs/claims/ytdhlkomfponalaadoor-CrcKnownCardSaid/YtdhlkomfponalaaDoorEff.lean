/- The effects of steps (crc.effect): on, squared, ofZeroByte; and Join, of the program and of the reference. -/
import Derived.Test.YtdhlkomfponalaaDoorSteps
import Derived.Deep.WholeRow
import Derived.Laws.Rows
import Derived.Laws.Tables
import Derived.Laws.ResultCell
import Derived.WalkMore
namespace Go.Proofs.YtdhlkomfponalaaDoor
open Go.RowKit
set_option linter.unusedVariables false

/-- What m steps make of each bit, as cells. -/
def parted (m k : Nat) : Array Value := Array.ofFn (n := 32) fun i => Value.int .u32 ((if i.val < k then Crc.zs m (2 ^ i.val) else 0 : Nat) : Int)
def eff (m : Nat) : Array Value := parted m 32
theorem parted_size (m k : Nat) : (parted m k).size = 32 := by simp [parted]
theorem eff_size (m : Nat) : (eff m).size = 32 := parted_size m 32
theorem parted_get (m k i : Nat) (hi : i < 32) : (parted m k)[i]? = some (Value.int .u32 ((if i < k then Crc.zs m (2 ^ i) else 0 : Nat) : Int)) := by
  simp [parted, hi]
theorem eff_get (m i : Nat) (hi : i < 32) : (eff m)[i]? = some (Value.int .u32 (Crc.zs m (2 ^ i) : Nat)) := by
  unfold eff; rw [parted_get m 32 i hi, if_pos hi]
theorem parted_one (m k : Nat) : (parted m k).all (·.oneCell') = true := by
  rw [Array.all_eq_true]
  intro i hi
  simp [parted]
  rfl
theorem parted_set (m k : Nat) (hk : k < 32) : (parted m k).setIfInBounds k (Value.int .u32 (Crc.zs m (2 ^ k) : Nat)) = parted m (k + 1) := by
  apply Array.ext_getElem?
  intro i
  rcases Nat.lt_or_ge i 32 with hi | hi
  · rw [Array.getElem?_setIfInBounds, parted_get m (k + 1) i hi]
    split
    · rename_i h
      subst h
      simp [parted_size, hk]
    · rw [parted_get m k i hi]
      congr 4
      simp [show i < k ↔ i < k + 1 by omega]
  · rw [Array.getElem?_eq_none (by simp [parted_size]; omega), Array.getElem?_eq_none (by simp [parted_size]; omega)]
theorem parted_zero (m : Nat) : parted m 0 = Array.replicate 32 (Value.int .u32 0) := by
  apply Array.ext_getElem?
  intro i
  rcases Nat.lt_or_ge i 32 with hi | hi
  · rw [parted_get m 0 i hi]; simp [hi]
  · rw [Array.getElem?_eq_none (by simp [parted_size]; omega), Array.getElem?_eq_none (by simp; omega)]

theorem info43 : (Tryd.prog.info? 43).map (·.size) = some 32 := by kernel_rfl

theorem shr_bit (r k : Nat) (hr : r < 4294967296) : bits BinOp.and IntKind.u32 ((r : Int) / 2 ^ k) 1 = ((r / 2 ^ k % 2 : Nat) : Int) := by
  have h : r / 2 ^ k < 4294967296 := Nat.lt_of_le_of_lt (Nat.div_le_self _ _) hr
  have := u32_and_nat (r / 2 ^ k) 1 h (by omega)
  rw [show r / 2 ^ k &&& 1 = r / 2 ^ k % 2 from Nat.and_one_is_mod _] at this
  rw [← this]
  simp

theorem eff_cells (m : Nat) : (Value.agg (eff m)).cells = eff m := rfl
theorem eff_is (m : Nat) : eff m = parted m 32 := rfl
attribute [irreducible] parted eff
theorem uint32_info : (Tryd.prog.info? 22).map (·.size) = some 1 := by kernel_rfl
theorem idx (m k : Nat) (hk : k < 32) (w : World) : (Instr.index 43 (.agg (eff m)) (.int .i64 (k : Int))).run Tryd.prog w = .ok (.int .u32 (Crc.zs m (2 ^ k) : Nat)) w := by
  have hs : (Go.sizeOf 22).run Tryd.prog w = .ok 1 w := by kernel_rfl
  have hu := run_underlying Tryd.underlying43 w
  have hi : (0 : Int) ≤ (k : Int) ∧ (k : Int) < ((32 : Nat) : Int) := by omega
  simp [Instr.index, Go.part, asIntOf, Sem.run_bind, hu, hs, hi, eff_get m k hk]
  intro h
  omega

set_option maxHeartbeats 1000000 in
theorem on (m r : Nat) (w : World) (hr : r < 4294967296) :
    Calls Tryd.prog 26 #[.agg (eff m), .int .u32 r] w fun e w' => e = .returned (.int .u32 (Crc.zs m r : Nat)) ∧ Below w.heap.size w w' := by
  have hsz := Lib.hid (eff_size m)
  have hload := Lib.hid (info43)
  go_enter Tryd.func26, Tryd.ntmps26
  go_wp2_with (refine wpList_load_row rfl 43 (.tmp 2) rfl w.heap.size rfl 43 (eff m) (0, 0) _ (Go.heap_alloc_last w _) Tryd.underlying43 rfl (by rw [hsz.out]; exact hload.out) ?_)
  go_loop [5, 9] (fun x i => ∃ k : Nat, k ≤ 32 ∧ i = .int .i64 k ∧ x = .int .u32 (Crc.onBits m r k : Nat)) (fun _ i => 32 - (intOf i).toNat)
  case atStart => exact ⟨0, by omega, rfl, rfl⟩
  case round =>
    obtain ⟨k, hk, rfl, rfl⟩ := hrel
    by_cases hlt : k < 32
    · have hget := idx m k hlt
      have hb := shr_bit r k hr
      have ho : Crc.onBits m r k < 4294967296 := by have := Crc.onBits_lt m r k; omega
      have HO : Hid (Crc.onBits m r (k + 1) = _) := Lib.hid (by rw [Crc.onBits])
      by_cases h1 : r / 2 ^ k % 2 = 1
      · rw [if_pos h1] at HO
        rw [h1] at hb
        have X := Lib.hid (xor32 _ (Crc.zs m (2 ^ k)) ho (Crc.zs_lt _ _ (Nat.pow_lt_pow_right (n := 32) (by omega) hlt)))
        clear h1
        generalize Crc.zs m (2 ^ k) = e at *
        go_wp2
        go_round
        case rel => exact ⟨k + 1, by omega, by go_num, by rw [HO.out, ← X.out]⟩
        case measure => simp [intOf]; omega
      · rw [if_neg h1] at HO
        rw [show r / 2 ^ k % 2 = 0 by omega] at hb
        clear h1
        generalize Crc.zs m (2 ^ k) = e at *
        go_wp2
        go_round
        case rel => exact ⟨k + 1, by omega, by go_num, by rw [HO.out]⟩
        case measure => simp [intOf]; omega
    · have HE : Hid (Crc.onBits m r k = Crc.zs m r) := Lib.hid (by rw [show k = 32 by omega]; exact Crc.onBits_all m r hr)
      go_wp2
      go_ret
      exact ⟨congrArg Ending.returned (congrArg (Value.int IntKind.u32) (by rw [HE.out])), up_new _ _⟩
theorem Below.setRow' {B : Nat} {a w : World} (h : Below B a w) {g : Nat} (hg : B ≤ g) (cs : Array Value) : Below B a (w.setRow g cs) :=
  ⟨h.os, h.tape, h.output, by rw [setRow_size]; exact h.size, fun k hk => (setRow_other w g k cs (by omega)).trans (h.block k hk)⟩
theorem below_row {B : Nat} {w w' : World} (h : Below B w w') {g : Nat} {o : Obj} (hg : w.heap[g]? = some o) (hB : w.heap.size ≤ B) : w'.heap[g]? = some o := by
  have hlt : g < w.heap.size := by
    rcases Nat.lt_or_ge g w.heap.size with hlt | hge
    · exact hlt
    · rw [Array.getElem?_eq_none hge] at hg; cases hg
  rw [h.block g (by omega)]; exact hg
theorem zero43 (w : World) : (zeroValue 43).run Tryd.prog w = .ok (.agg (parted 8 0)) w := by
  rw [parted_zero]; kernel_rfl
theorem pow_u32 (k : Nat) (hk : k < 32) : IntKind.u32.wrap (2 ^ k) = ((2 ^ k : Nat) : Int) := by
  have h1 : 2 ^ k ≤ 2 ^ 31 := Nat.pow_le_pow_right (by omega) (by omega)
  rw [IntKind.wrap_u32, show (2 : Int) ^ k = ((2 ^ k : Nat) : Int) by simp]
  generalize 2 ^ k = o at *
  omega

set_option maxHeartbeats 1000000 in
theorem ofZeroByte (w : World) (T : Tab w) :
    Calls Tryd.prog 25 #[] w fun e w' => e = .returned (.agg (eff 8)) ∧ Below w.heap.size w w' := by
  have Z := zero43
  have HT := Lib.hid T
  clear T
  go_enter Tryd.func25, Tryd.ntmps25
  go_wp2
  go_loopw [3] (fun x wr => ∃ k : Nat, k ≤ 32 ∧ x = .int .i64 k ∧ wr = (w.alloc (.cells (parted 8 0) 43)).alloc (.cells (parted 8 k) 43)) (fun x _ => 32 - (intOf x).toNat)
  case atStart => exact ⟨0, by omega, rfl, rfl⟩
  case round =>
    obtain ⟨k, hk, rfl, rfl⟩ := hrel
    by_cases hlt : k < 32
    · have hp := pow_u32 k hlt
      have hp2 : 2 ^ k < 4294967296 := Nat.pow_lt_pow_right (n := 32) (by omega) hlt
      have HS := Lib.hid (parted_set 8 k hlt)
      have hsz := parted_size 8 k
      have HL := Lib.hid hp2
      clear hp2
      go_wp2_with fail
      rw [show (2 : Int) ^ k = ((2 ^ k : Nat) : Int) by simp]
      refine (zeroByte (2 ^ k) _ HL.out ((HT.out.later (up_new _ _)).later (up_new _ _))).mono ?_
      rintro e w' ⟨rfl, rfl⟩
      go_wp2
      exact ⟨⟨k + 1, by omega, by go_num, by rw [HS.out]⟩, by simp [intOf]; omega⟩
    · obtain rfl : k = 32 := by omega
      clear Z
      have h32 : decide (((32 : Nat) : Int) < 32) = false := rfl
      have hg1 := heap_alloc2_new w (.cells (parted 8 0) 43) (.cells (parted 8 32) 43)
      have hg0 := heap_alloc2_old w (.cells (parted 8 0) 43) (.cells (parted 8 32) 43)
      have B : Below w.heap.size w (((w.alloc (.cells (parted 8 0) 43)).alloc (.cells (parted 8 32) 43)).setRow w.heap.size (parted 8 32)) :=
        Below.setRow' ((up_new w _).alloc (by simp) _) (Nat.le_refl _) _
      have hi : (Tryd.prog.info? 43).map (·.size) = some (parted 8 32).size := by rw [parted_size]; exact info43
      have hr := setRow_heap _ _ _ (parted 8 32) _ _ hg0
      generalize (w.alloc (.cells (parted 8 0) 43)).alloc (.cells (parted 8 32) 43) = w2 at *
      have HI := Lib.hid hi
      have HG1 := Lib.hid hg1
      have HG0 := Lib.hid hg0
      have HR := Lib.hid hr
      clear hi hg0 hg1 hr
      go_wp2_with (first
        | refine wpList_load_row rfl 43 (.tmp 1) rfl (w.heap.size + 1) rfl 43 (parted 8 32) (0, 0) _ HG1.out Tryd.underlying43 rfl HI.out ?_
        | refine wpList_store_row rfl 43 (.tmp 0) (.tmp 12) rfl w.heap.size (parted 8 32) rfl rfl 43 (parted 8 0) HG0.out HI.out (by rw [parted_size, parted_size]) (parted_one _ _) ?_)
      (try simp only [Exit.inBlock, Exit.then])
      refine bodyPost_ret (v := .agg (eff 8)) ?_ rfl ⟨rfl, B⟩
      rw [eff_is]
      exact results_cell_row rfl _ _ w.heap.size 43 _ _ _ rfl HR.out Tryd.underlying43 rfl HI.out

theorem zs_twice (m k : Nat) : Crc.zs m (Crc.zs m (2 ^ k)) = Crc.zs (2 * m) (2 ^ k) := by rw [← Crc.zs_add, Nat.two_mul]

set_option maxHeartbeats 2000000 in
theorem squared (m : Nat) (w : World) :
    Calls Tryd.prog 27 #[.agg (eff m)] w fun e w' => e = .returned (.agg (eff (2 * m))) ∧ Below w.heap.size w w' := by
  have Z := zero43
  have HI : Hid ((Tryd.prog.info? 43).map (·.size) = some (eff m).size) := Lib.hid (by rw [eff_size]; exact info43)
  have h0 : ((((w.alloc (.cells (eff m) 43)).alloc (.cells (parted 8 0) 43)).alloc (.cells (parted 8 0) 43))).heap[w.heap.size]? = some (.cells (eff m) 43 (0, 0)) := by
    rw [Below.heap_alloc _ _ _ (by simp; try omega)]; exact heap_alloc2_old _ _ _
  have h1 : ((((w.alloc (.cells (eff m) 43)).alloc (.cells (parted 8 0) 43)).alloc (.cells (parted 8 0) 43))).heap[w.heap.size + 1]? = some (.cells (parted 8 0) 43 (0, 0)) := by
    rw [Below.heap_alloc _ _ _ (by simp; try omega)]; exact heap_alloc2_new _ _ _
  have h2 : ((((w.alloc (.cells (eff m) 43)).alloc (.cells (parted 8 0) 43)).alloc (.cells (parted 8 0) 43))).heap[w.heap.size + 2]? = some (.cells (parted (2 * m) 0) 43 (0, 0)) := by
    rw [parted_zero (2 * m), ← parted_zero 8]
    have := heap_alloc2_new (w.alloc (.cells (eff m) 43)) (.cells (parted 8 0) 43) (.cells (parted 8 0) 43)
    simpa using this
  have hb : Below w.heap.size w ((((w.alloc (.cells (eff m) 43)).alloc (.cells (parted 8 0) 43)).alloc (.cells (parted 8 0) 43))) :=
    ((up_new w _).alloc (by simp) _).alloc (by simp; omega) _
  have H0 := Lib.hid h0
  have H1 := Lib.hid h1
  have H2 := Lib.hid h2
  have HB := Lib.hid hb
  clear h0 h1 h2 hb
  go_enter Tryd.func27, Tryd.ntmps27
  go_wp2_with (refine wpList_load_row rfl 43 (.tmp 1) rfl w.heap.size rfl 43 (eff m) (0, 0) _ H0.out Tryd.underlying43 rfl HI.out ?_)
  clear Z
  go_loopw [7] (fun x wr => ∃ k : Nat, k ≤ 32 ∧ x = .int .i64 k ∧ Below w.heap.size w wr ∧ Hid (wr.heap[w.heap.size]? = some (.cells (eff m) 43 (0, 0))) ∧ Hid (wr.heap[w.heap.size + 1]? = some (.cells (parted 8 0) 43 (0, 0))) ∧ Hid (wr.heap[w.heap.size + 2]? = some (.cells (parted (2 * m) k) 43 (0, 0)))) (fun x _ => 32 - (intOf x).toNat)
  case atStart => exact ⟨0, by omega, rfl, HB.out, H0, H1, H2⟩
  case round =>
    clear H0 H1 H2 HB
    obtain ⟨k, hk, rfl, hb, H0, H1, H2⟩ := hrel
    by_cases hlt : k < 32
    · have hget := idx m k hlt
      have hz := Lib.hid (Crc.zs_lt m _ (Nat.pow_lt_pow_right (n := 32) (by omega) hlt : 2 ^ k < 2 ^ 32))
      have HT2 := Lib.hid (zs_twice m k)
      have HS := Lib.hid (parted_set (2 * m) k hlt)
      generalize Crc.zs m (2 ^ k) = x at *
      go_wp2_with (refine wpList_load_row rfl 43 (.tmp 1) rfl w.heap.size rfl 43 (eff m) (0, 0) _ H0.out Tryd.underlying43 rfl HI.out ?_)
      refine (on m x _ hz.out).mono ?_
      rintro e w1 ⟨rfl, b1⟩
      rw [HT2.out]
      have g0 := below_row b1 H0.out (Nat.le_refl _)
      have g1 := below_row b1 H1.out (Nat.le_refl _)
      have g2 := below_row b1 H2.out (Nat.le_refl _)
      have B1 := up hb b1
      have hc : w1.cell? ⟨w.heap.size + 2, k, none⟩ = some (.int .u32 0) := by
        rw [cell_of_row _ _ _ _ _ _ g2, parted_get _ _ _ hlt]; simp
      have hf : w1.frozen? ⟨w.heap.size + 2, k, none⟩ = false := frozen_of_row _ _ _ _ _ g2
      have G0 := Lib.hid g0
      have G1 := Lib.hid g1
      have G2 := Lib.hid g2
      clear g0 g1 g2 b1 hb H0 H1 H2
      go_wp2
      refine ⟨⟨k + 1, by omega, by go_num, B1.setCell (by simp; omega) _, Lib.hid ?_, Lib.hid ?_, Lib.hid ?_⟩, by simp [intOf]; omega⟩
      · rw [heap_setCell_other _ _ _ _ (by simp; omega)]; exact G0.out
      · rw [heap_setCell_other _ _ _ _ (by simp)]; exact G1.out
      · have := heap_setCell_same w1 (w.heap.size + 2) k _ _ (Value.int .u32 (Crc.zs (2 * m) (2 ^ k) : Nat)) G2.out
        rw [HS.out] at this
        exact this
    · obtain rfl : k = 32 := by omega
      have h32 : decide (((32 : Nat) : Int) < 32) = false := rfl
      have B := Below.setRow' hb (g := w.heap.size + 1) (by omega) (parted (2 * m) 32)
      have HJ : Hid ((Tryd.prog.info? 43).map (·.size) = some (parted (2 * m) 32).size) := Lib.hid (by rw [parted_size]; exact info43)
      have HR := Lib.hid (setRow_heap _ _ _ (parted (2 * m) 32) _ _ H1.out)
      go_wp2_with (first
        | refine wpList_load_row rfl 43 (.tmp 3) rfl (w.heap.size + 2) rfl 43 (parted (2 * m) 32) (0, 0) _ H2.out Tryd.underlying43 rfl HJ.out ?_
        | refine wpList_store_row rfl 43 (.tmp 2) (.tmp 17) rfl (w.heap.size + 1) (parted (2 * m) 32) rfl rfl 43 (parted 8 0) H1.out HJ.out (by rw [parted_size, parted_size]) (parted_one _ _) ?_)
      (try simp only [Exit.inBlock, Exit.then])
      refine bodyPost_ret (v := .agg (eff (2 * m))) ?_ rfl ⟨rfl, B⟩
      rw [eff_is (2 * m)]
      exact results_cell_row rfl _ _ (w.heap.size + 1) 43 _ _ _ rfl HR.out Tryd.underlying43 rfl HJ.out

theorem and1_i64 (q : Nat) (h : q ≤ 9223372036854775807) : bits BinOp.and IntKind.i64 (q : Int) 1 = ((q % 2 : Nat) : Int) := by
  show IntKind.i64.wrap ((BitVec.ofInt 64 (q : Int) &&& BitVec.ofInt 64 1).toNat : Int) = _
  rw [BitVec.toNat_and, ofInt_u64 q (by omega), show (BitVec.ofInt 64 1).toNat = 1 by decide, Nat.and_one_is_mod]
  have : q % 2 < 2 := Nat.mod_lt _ (by omega)
  generalize q % 2 = t at *
  simp [IntKind.wrap, IntKind.bits, IntKind.signed]
  omega
theorem eff_one (m : Nat) : (eff m).all (·.oneCell') = true := by rw [eff_is]; exact parted_one _ _
theorem join_even (m q x : Nat) (h : q % 2 = 0) : Crc.zs (2 * m * (q / 2)) x = Crc.zs (m * q) x := by
  congr 1
  rw [Nat.mul_comm 2 m, Nat.mul_assoc]
  congr 1
  omega
theorem join_odd (m q x : Nat) (h : q % 2 = 1) : Crc.zs (2 * m * (q / 2)) (Crc.zs m x) = Crc.zs (m * q) x := by
  rw [← Crc.zs_add]
  congr 1
  rw [Nat.mul_comm 2 m, Nat.mul_assoc]
  conv => lhs; rw [← Nat.mul_one m]
  rw [Nat.mul_one, ← Nat.mul_one m, Nat.mul_assoc, ← Nat.mul_add]
  rw [Nat.mul_assoc]
  congr 1
  omega

set_option maxHeartbeats 2000000 in
set_option maxRecDepth 100000 in
theorem join (a b n : Nat) (w : World) (ha : a < 4294967296) (hb : b < 4294967296) (hn : n ≤ 9223372036854775807) (T : Tab w) :
    Calls Tryd.prog 18 #[.int .u32 a, .int .u32 b, .int .i64 n] w fun e w' => e = .returned (.tuple #[.int .u32 (Crc.zs (8 * n) a ^^^ b : Nat), .int .i64 0]) ∧ Below w.heap.size w w' := by
  have Z := zero43
  have n0 : ¬ ((n : Int) < 0) := by omega
  go_enter Tryd.func18, Tryd.ntmps18
  go_wp2_with fail
  go_step3
  go_wp2_with fail
  refine (ofZeroByte _ T).mono ?_
  rintro e w1 ⟨rfl, b1⟩
  have HI : ∀ m, Hid ((Tryd.prog.info? 43).map (·.size) = some (eff m).size) := fun m => Lib.hid (by rw [eff_size]; exact info43)
  go_wp2_with (refine wpList_store_row rfl 43 (.tmp 8) (.tmp 11) rfl w1.heap.size (eff 8) rfl rfl 43 (parted 8 0) (Go.heap_alloc_last w1 _) (HI 8).out (by rw [parted_size, eff_size]) (eff_one 8) ?_)
  go_step3
  have G := Lib.hid (setRow_heap _ _ _ (eff 8) _ _ (Go.heap_alloc_last w1 (.cells (parted 8 0) 43)))
  have B : Below w.heap.size w ((w1.alloc (.cells (parted 8 0) 43)).setRow w1.heap.size (eff 8)) := Below.setRow' (b1.alloc b1.size _) b1.size _
  have hg := b1.size
  generalize (w1.alloc (.cells (parted 8 0) 43)).setRow w1.heap.size (eff 8) = w2 at *
  generalize w1.heap.size = g at *
  clear b1 Z T
  go_wp2
  simp only [Act.put]
  go_loopw [0, 2] (fun x y wr => ∃ m q c : Nat, y = .int .i64 q ∧ q ≤ 9223372036854775807 ∧ x = .int .u32 c ∧ c < 4294967296 ∧ Below w.heap.size w wr ∧ Hid (wr.heap[g]? = some (.cells (eff m) 43 (0, 0))) ∧ Hid (Crc.zs (m * q) c = Crc.zs (8 * n) a)) (fun _ y _ => (intOf y).toNat)
  case atStart => exact ⟨8, n, a, rfl, hn, rfl, ha, B, G, Lib.hid rfl⟩
  case round =>
    clear B G
    obtain ⟨m, q, c, rfl, hq, rfl, hc, hB, G, HZ⟩ := hrel
    rcases Nat.eq_zero_or_pos q with rfl | hq0
    · have HX : Hid (bits BinOp.xor IntKind.u32 (c : Int) (b : Int) = ((Crc.zs (8 * n) a ^^^ b : Nat) : Int)) := Lib.hid (by rw [← HZ.out, Nat.mul_zero]; exact xor32 c b hc hb)
      go_wp2
      rw [Exit.noGoto_ret]
      go_ret2
      exact ⟨congrArg Ending.returned (by rw [← HX.out]; rfl), hB⟩
    · have hq1 : ((q : Int) == 0) = false := by rw [beq_eq_false_iff_ne]; omega
      have ha1 := and1_i64 q hq
      have hH := HI m
      rcases Nat.mod_two_eq_zero_or_one q with h2 | h2
      · have HN := Lib.hid ((join_even m q c h2).trans HZ.out)
        rw [h2] at ha1
        clear h2
        go_wp2_with (refine wpList_load_row rfl 43 (.tmp 8) rfl g rfl 43 (eff m) (0, 0) _ G.out Tryd.underlying43 rfl hH.out ?_)
        refine (squared m _).mono ?_
        rintro e w4 ⟨rfl, b4⟩
        have g4 := below_row b4 G.out (Nat.le_refl _)
        have G5 := Lib.hid (setRow_heap _ _ _ (eff (2 * m)) _ _ g4)
        have B5 := Below.setRow' (up hB b4) hg (eff (2 * m))
        have H2 := HI (2 * m)
        have G4 := Lib.hid g4
        clear g4 b4
        go_wp2_with (refine wpList_store_row rfl 43 (.tmp 8) (.tmp 25) rfl g (eff (2 * m)) rfl rfl 43 (eff m) G4.out H2.out (by rw [eff_size, eff_size]) (eff_one _) ?_)
        simp only [Act.put]
        go_roundw
        case rel => exact ⟨2 * m, q / 2, _, by go_num, by omega, rfl, hc, B5, G5, HN⟩
        case measure => simp [intOf]; omega
      · have HN := Lib.hid ((join_odd m q c h2).trans HZ.out)
        rw [h2] at ha1
        clear h2
        go_wp2_with (refine wpList_load_row rfl 43 (.tmp 8) rfl g rfl 43 (eff m) (0, 0) _ G.out Tryd.underlying43 rfl hH.out ?_)
        refine (on m c _ hc).mono ?_
        rintro e w3 ⟨rfl, b3⟩
        have G3 := Lib.hid (below_row b3 G.out (Nat.le_refl _))
        have B3 := up hB b3
        clear b3 hB G
        go_wp2_with (refine wpList_load_row rfl 43 (.tmp 8) rfl g rfl 43 (eff m) (0, 0) _ G3.out Tryd.underlying43 rfl hH.out ?_)
        refine (squared m _).mono ?_
        rintro e w4 ⟨rfl, b4⟩
        have g4 := below_row b4 G3.out (Nat.le_refl _)
        have G5 := Lib.hid (setRow_heap _ _ _ (eff (2 * m)) _ _ g4)
        have B5 := Below.setRow' (up B3 b4) hg (eff (2 * m))
        have H2 := HI (2 * m)
        have G4 := Lib.hid g4
        clear g4 b4
        go_wp2_with (refine wpList_store_row rfl 43 (.tmp 8) (.tmp 25) rfl g (eff (2 * m)) rfl rfl 43 (eff m) G4.out H2.out (by rw [eff_size, eff_size]) (eff_one _) ?_)
        simp only [Act.put]
        go_roundw
        case rel => exact ⟨2 * m, q / 2, _, by go_num, by omega, rfl, Crc.zs_lt _ _ hc, B5, G5, HN⟩
        case measure => simp [intOf]; omega

set_option maxHeartbeats 400000 in
theorem join_neg (a b : Nat) (n : Int) (w : World) (h : n < 0) :
    Calls Tryd.prog 18 #[.int .u32 a, .int .u32 b, .int .i64 n] w fun e w' => e = .returned (.tuple #[.int .u32 0, .int .i64 6]) ∧ w = w' := by
  go_enter Tryd.func18, Tryd.ntmps18
  go_wp2
  go_step3
  go_wp2
  rw [Exit.noGoto_ret]
  go_ret2
  exact ⟨rfl, rfl⟩
set_option maxHeartbeats 400000 in
theorem rjoin_neg (a b : Nat) (n : Int) (w : World) (h : n < 0) :
    Calls Tryd.prog 19 #[.int .u32 a, .int .u32 b, .int .i64 n] w fun e w' => e = .returned (.tuple #[.int .u32 0, .int .i64 6]) ∧ w = w' := by
  go_enter Tryd.func19, Tryd.ntmps19
  go_wp2
  go_ret2
  exact ⟨rfl, rfl⟩

set_option maxHeartbeats 1000000 in
theorem rjoin (a b n : Nat) (w : World) (ha : a < 4294967296) (hb : b < 4294967296) (hn : n ≤ 9223372036854775807) :
    Calls Tryd.prog 19 #[.int .u32 a, .int .u32 b, .int .i64 n] w fun e w' => e = .returned (.tuple #[.int .u32 (Crc.zs (8 * n) a ^^^ b : Nat), .int .i64 0]) ∧ w = w' := by
  have n0 : ¬ ((n : Int) < 0) := by omega
  go_enter Tryd.func19, Tryd.ntmps19
  go_wp2
  go_loop [0, 8] (fun x i => ∃ k c : Nat, k ≤ n ∧ i = .int .i64 k ∧ x = .int .u32 c ∧ c < 4294967296 ∧ Hid (c = Crc.zs (8 * k) a)) (fun _ i => n - (intOf i).toNat)
  case atStart => exact ⟨0, a, Nat.zero_le _, rfl, rfl, ha, Lib.hid rfl⟩
  case round =>
    obtain ⟨k, c, hk, rfl, rfl, hc, HC⟩ := hrel
    by_cases hlt : k < n
    · have hdl : decide ((k : Int) < (n : Int)) = true := by simp; omega
      go_wp2
      go_loop [0, 9] (fun x i => ∃ j d : Nat, j ≤ 8 ∧ i = .int .i64 j ∧ x = .int .u32 d ∧ d < 4294967296 ∧ Hid (d = Crc.zs j c)) (fun _ i => 8 - (intOf i).toNat)
      case atStart => exact ⟨0, c, by omega, rfl, rfl, hc, Lib.hid rfl⟩
      case round =>
        obtain ⟨j, d, hj, rfl, rfl, hd, HD⟩ := hrel
        by_cases hlj : j < 8
        · go_wp2_with fail
          refine (rstep d 0 _ hd (by omega)).mono ?_
          rintro e w' ⟨rfl, rfl⟩
          rw [Nat.xor_zero]
          have hz := Crc.z_lt d hd
          have HZ : Hid (Crc.z d = Crc.zs (j + 1) c) := Lib.hid (by rw [Crc.zs_add j 1, ← HD.out]; rfl)
          go_wp2
          go_round
          case rel => exact ⟨j + 1, Crc.z d, by omega, by go_num, rfl, hz, HZ⟩
          case measure => simp [intOf]; omega
        · have HE : Hid (d = Crc.zs (8 * (k + 1)) a) := Lib.hid (by rw [HD.out, HC.out, ← Crc.zs_add, show j = 8 by omega, Nat.mul_add])
          go_wp2
          go_round
          case rel => exact ⟨k + 1, d, by omega, by go_num, rfl, hd, HE⟩
          case measure => simp [intOf]; omega
    · have HX : Hid (bits BinOp.xor IntKind.u32 (c : Int) (b : Int) = ((Crc.zs (8 * n) a ^^^ b : Nat) : Int)) := Lib.hid (by rw [xor32 c b hc hb, HC.out, show k = n by omega])
      go_wp2
      go_ret2
      exact ⟨congrArg Ending.returned (by rw [← HX.out]; rfl), rfl⟩
end Go.Proofs.YtdhlkomfponalaaDoor
