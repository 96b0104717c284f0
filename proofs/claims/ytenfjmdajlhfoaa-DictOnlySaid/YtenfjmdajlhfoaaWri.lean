/- Put and PutInt of the program, and the writers of the reference, answer the plain writing of a number. -/
import Derived.Test.YtenfjmdajlhfoaaRed
import Derived.Deep.RegionLawGrows
namespace Go.Proofs.Ytenfjmdajlhfoaa
open Go.RowKit
set_option linter.unusedVariables false

/-- An array of bytes that fills a block. -/
def Arr (w : World) (g : Nat) (l : List Nat) : Prop := w.heap[g]? = some (.cells (vals l).toArray 71 (0, 0))
theorem Arr.lt {w : World} {g : Nat} {l : List Nat} (h : Arr w g l) : g < w.heap.size := by
  rcases Nat.lt_or_ge g w.heap.size with hlt | hge
  · exact hlt
  · unfold Arr at h; rw [Array.getElem?_eq_none hge] at h; cases h
theorem Arr.cell {w : World} {g : Nat} {l : List Nat} (h : Arr w g l) (k : Nat) (hk : k < l.length) : w.cell? ⟨g, k, none⟩ = some (.int .u8 (l.getD k 0 : Nat)) := by
  have := cell_of_row w g k _ 71 (0, 0) h
  rw [this]
  simp [vals, List.getElem?_eq_getElem hk]
theorem Arr.frozen {w : World} {g : Nat} {l : List Nat} (h : Arr w g l) (k : Nat) : w.frozen? ⟨g, k, none⟩ = false := by
  unfold Arr at h
  simp [World.frozen?, h]
theorem Arr.put {w : World} {g : Nat} {l : List Nat} (h : Arr w g l) (k x : Nat) : Arr (w.setCell ⟨g, k, none⟩ (.int .u8 (x : Int))) g (l.set k x) := by
  unfold Arr at h ⊢
  simp only [World.setCell, Array.getElem?_modify, h]
  simp [vals, List.map_set]

/-- The array, k digits having been laid. -/
def fill (n k : Nat) : List Nat := (List.range 10).map fun j => if j < k then n / 128 ^ j % 128 + 128 else 0
theorem fill_length (n k : Nat) : (fill n k).length = 10 := by simp [fill]
theorem fill_get (n k j : Nat) (hj : j < k) (hk : j < 10) : (fill n k).getD j 0 = n / 128 ^ j % 128 + 128 := by
  have h : j < (fill n k).length := by rw [fill_length]; exact hk
  rw [show (fill n k).getD j 0 = (fill n k)[j] by simp [List.getElem?_eq_getElem h]]
  simp only [fill, List.getElem_map, List.getElem_range]
  rw [if_pos hj]
theorem fill_step (n k : Nat) (hk : k < 10) : (fill n k).set k (n / 128 ^ k % 128 + 128) = fill n (k + 1) := by
  refine List.ext_getElem (by simp [fill]) fun j h1 h2 => ?_
  rw [List.getElem_set]
  simp only [fill, List.getElem_map, List.getElem_range]
  by_cases e : k = j
  · subst e; simp
  · rw [if_neg e]
    by_cases hj : j < k
    · rw [if_pos hj, if_pos (by omega)]
    · rw [if_neg hj, if_neg (by omega)]

theorem or_128 : ∀ d : Fin 256, bits BinOp.or IntKind.u8 (d.val : Int) 128 = ((d.val % 128 + 128 : Nat) : Int) := by decide +kernel
theorem andNot_128 : ∀ d : Fin 128, bits BinOp.andNot IntKind.u8 ((d.val + 128 : Nat) : Int) 128 = (d.val : Int) := by decide +kernel
theorem digit_eq (n k : Nat) : bits BinOp.or IntKind.u8 ((n : Int) / 2 ^ (7 * k) % 256) 128 = ((n / 128 ^ k % 128 + 128 : Nat) : Int) := by
  have h := or_128 ⟨n / 128 ^ k % 256, by omega⟩
  have e : (n : Int) / 2 ^ (7 * k) % 256 = ((n / 128 ^ k % 256 : Nat) : Int) := by rw [← pow_128]; simp
  rw [e]
  refine h.trans ?_
  simp only
  omega
theorem last_eq (n j : Nat) (h : n / 128 ^ j < 128) : bits BinOp.andNot IntKind.u8 ((n : Int) / 128 ^ j % 128 + 128) 128 = ((n / 128 ^ j : Nat) : Int) := by
  have e1 : (n : Int) / 128 ^ j = ((n / 128 ^ j : Nat) : Int) := by simp
  rw [e1]
  generalize n / 128 ^ j = q at *
  rw [show (q : Int) % 128 + 128 = ((q + 128 : Nat) : Int) by omega]
  exact andNot_128 ⟨q, h⟩
/-- The digits, the last one without its mark: the bytes of the number. -/
def laid (n m : Nat) : List Nat := (fill n m).set (m - 1) (n / 128 ^ (m - 1))
theorem laid_length (n m : Nat) : (laid n m).length = 10 := by simp [laid, fill]
theorem laid_eq (n : Nat) (hn : n < 2 ^ 64) : (laid n (Leb.enc n).length).take (Leb.enc n).length = Leb.enc n := by
  have h1 := Leb.enc_pos n
  have h2 := Leb.enc_len n
  refine List.ext_getElem (by rw [List.length_take, laid_length]; omega) fun j h3 h4 => ?_
  have h5 := (Leb.enc_get n j hn h4).1
  rw [List.getElem_take]
  simp only [laid, List.getElem_set, fill, List.getElem_map, List.getElem_range]
  rw [show (Leb.enc n)[j] = (Leb.enc n).getD j 0 by simp [List.getElem?_eq_getElem h4], h5]
  by_cases e : (Leb.enc n).length - 1 = j
  · rw [if_pos e, if_neg (by omega), e]
  · rw [if_neg e, if_pos h4, if_pos (by omega)]

set_option maxHeartbeats 400000 in
theorem put (v : Value) (l : List Nat) (x : Int) (w : World) (h : Rd w w.heap.size v l) (hl : l.length ≤ 1000000) (h0 : 0 ≤ x) (h1 : x ≤ 18446744073709551615) :
    Calls Try.prog 39 #[v, .int .u64 x] w fun e w' => ∃ r, e = .returned r ∧ Own w' w.heap.size r (l ++ Leb.enc x.toNat) ∧ Below w.heap.size w w' := by
  obtain ⟨n, rfl⟩ := Int.eq_ofNat_of_zero_le h0
  rw [Int.toNat_natCast]
  have hm1 := Leb.enc_pos n
  have hm2 := Leb.enc_len n
  have LAST := Lib.hid (show ∀ j, j + 1 = (Leb.enc n).length → n / 128 ^ j < 128 from fun j hj => (Leb.enc_get n j (by omega) (by omega)).2 hj)
  obtain ⟨a, c, rfl, g1, g2, g3, g4, g5⟩ := id h
  have G3 := Lib.hid g3
  have G4 := Lib.hid g4
  have G5 := Lib.hid g5
  clear g2 g3 g4 g5
  go_enter Try.func39, Try.ntmps39
  go_wp2_with fail
  refine (size _ _ h0 h1).mono ?_
  rintro e w' ⟨rfl, rfl⟩
  rw [Int.toNat_natCast]
  generalize hm : (Leb.enc n).length = m at *
  have HM := Lib.hid hm
  clear hm
  go_wp2
  go_loopw [11] (fun i wr => ∃ k : Nat, k ≤ m ∧ i = .int .i64 k ∧ Arr wr w.heap.size (fill n k) ∧ Below w.heap.size w wr) (fun i _ => m - (intOf i).toNat)
  case atStart => exact ⟨0, by omega, rfl, heap_alloc_new w _, (Below.refl _ _).alloc (Nat.le_refl _) _⟩
  case round =>
    obtain ⟨k, hk, rfl, harr, hbw⟩ := hrel
    by_cases hlt : k < m
    · have hcell := harr.cell k (by rw [fill_length]; omega)
      have hfz := harr.frozen k
      generalize (fill n k).getD k 0 = old at hcell
      go_wp2
      go_roundw
      case rel =>
        refine ⟨k + 1, by omega, by go_num, ?_, hbw.setCell (Nat.le_refl _) _⟩
        rw [digit_eq, ← fill_step n k (by omega)]
        exact harr.put k _
      case measure => simp [intOf]; omega
    · obtain rfl : k = m := by omega
      have hlast : (fill n k).getD (k - 1) 0 = n / 128 ^ (k - 1) % 128 + 128 := by
        exact fill_get n k (k - 1) (by omega) (by omega)
      have hcell := harr.cell (k - 1) (by rw [fill_length]; omega)
      rw [hlast] at hcell
      have hfz := harr.frozen (k - 1)
      clear hlast
      go_wp2
      rw [last_eq n (k - 1) (LAST.out (k - 1) (by omega))]
      have harr2 := harr.put (k - 1) (n / 128 ^ (k - 1))
      have hb2 : Below w.heap.size w (wr.setCell ⟨w.heap.size, k - 1, none⟩ (.int .u8 ((n / 128 ^ (k - 1) : Nat) : Int))) := hbw.setCell (Nat.le_refl _) _
      clear harr hbw hcell hfz
      generalize wr.setCell ⟨w.heap.size, k - 1, none⟩ (.int .u8 ((n / 128 ^ (k - 1) : Nat) : Int)) = W at *
      have hlaid : Arr W w.heap.size (laid n k) := harr2
      obtain ⟨i0, hi, hz, hs, hby⟩ := byte_parts
      have HI := Lib.hid hi
      have HZ := Lib.hid hz
      have HS := Lib.hid hs
      have HB := Lib.hid hby
      clear hi hz hs hby harr2
      have hW : w.heap.size < W.heap.size := hlaid.lt
      have A1 := Lib.hid (show a = none → l.length = 0 ∧ l.length = 0 from fun e => by have := G3.out e; omega)
      have A2 := Lib.hid (show (vals l).length = l.length * 1 by rw [vals_length]; omega)
      have A3 := Lib.hid (show ∀ b, a = some b → ∀ j u, (vals l)[j]? = some u → W.cell? (b.add j) = some u from fun b e j u hu => by
        obtain ⟨hj, rfl⟩ := vals_get hu
        obtain ⟨b', off, e', hlt', hc⟩ := G5.out (by omega)
        rw [e'] at e
        injection e with e
        subst e
        rw [add_plain]
        exact (hb2.cell (p := ⟨b', off + j, none⟩) hlt').trans (hc j hj))
      have A4 := Lib.hid (show (vals (Leb.enc n)).length = k * 1 by rw [vals_length, HM.out]; omega)
      have A5 := Lib.hid (show ∀ j u, (vals (Leb.enc n))[j]? = some u → W.cell? ((⟨w.heap.size, 0, none⟩ : Addr).add j) = some u from fun j u hu => by
        obtain ⟨hj, rfl⟩ := vals_get hu
        rw [add_plain, Nat.zero_add, hlaid.cell j (by rw [laid_length]; have := HM.out; omega)]
        have e := laid_eq n (by omega)
        rw [HM.out] at e
        rw [← e]
        simp [show j < k by have := HM.out; omega])
      have B1 := Lib.hid (show l.length + k ≤ maxLen by simp only [maxLen]; omega)
      have hok : (k : Int) ≤ 10 := by omega
      go_region_law (refine step_append_grows rfl (.tmp 34) (.tmp 36) 23 rfl 5 i0 (.int .u8 0) 1 1 Try.underlying23 HI.out HZ.out HS.out HB.out rfl (by omega) a l.length l.length (vals l) (by simp [Act.eval, Act.put]) A1.out A2.out A3.out ⟨w.heap.size, 0, none⟩ k 10 (vals (Leb.enc n)) (by simp [Act.eval, Act.put]) A4.out A5.out (vals_one _) (by omega) B1.out (by omega) ?_; intro v1 w1 hown1 hg1)
      go_wp2
      go_ret
      have hbt : ∀ q ∈ l ++ Leb.enc n, q < 256 := fun q hq => (List.mem_append.1 hq).elim (G4.out q) (Leb.enc_byte n (by omega) q)
      have ho : Own w1 W.heap.size v1 (l ++ Leb.enc n) := by
        refine ⟨?_, hbt⟩
        rw [List.length_append, HM.out, vals_append]
        exact hown1
      exact ⟨v1, rfl, ho.lower (by omega), hb2.drew.grown hg1 (Nat.le_of_lt hW) (fun _ e => by cases e)⟩

theorem rd_one (w : World) (z : Int) (t : Nat) (hz : z = t) (ht : t < 256) :
    Rd (w.alloc (.cells #[.int .u8 z] 5)) (w.alloc (.cells #[.int .u8 z] 5)).heap.size (.slice (some ⟨w.heap.size, 0, none⟩) 1 1) [t] := by
  subst hz
  refine ⟨_, _, rfl, by simp, by simp [maxLen], by simp, by simpa using ht, fun _ => ⟨w.heap.size, 0, rfl, by simp, fun k hk => ?_⟩⟩
  obtain rfl : k = 0 := by simpa using hk
  simp

set_option maxHeartbeats 400000 in
set_option maxRecDepth 100000 in
theorem rbytes (x : Int) (w : World) (h0 : 0 ≤ x) (h1 : x ≤ 18446744073709551615) :
    Calls Try.prog 40 #[.int .u64 x] w fun e w' => ∃ r, e = .returned r ∧ Own w' w.heap.size r (Leb.enc x.toNat) ∧ Below w.heap.size w w' := by
  obtain ⟨n, rfl⟩ := Int.eq_ofNat_of_zero_le h0
  rw [Int.toNat_natCast]
  go_enter Try.func40, Try.ntmps40
  go_wp2
  go_loopw [0, 3] (fun t o wr => ∃ m l, t = .int .u64 ((m : Nat) : Int) ∧ (m : Int) ≤ 18446744073709551615 ∧ Own wr w.heap.size o l ∧ Below w.heap.size w wr ∧ Hid (l ++ Leb.enc m = Leb.enc n)) (fun t _ _ => (intOf t).toNat)
  case atStart => exact ⟨n, [], rfl, h1, Own.nil _ _, Below.refl _ _, Lib.hid rfl⟩
  case round =>
    obtain ⟨m, l, rfl, hm, hown, hbw, HE⟩ := hrel
    have hll : l.length ≤ 10 := by have := congrArg List.length HE.out; have h2 := Leb.enc_len n; rw [List.length_append] at this; omega
    have hle := hbw.size
    by_cases hlt : 128 ≤ m
    · have HB := Lib.hid (Leb.enc_big m hlt (by omega))
      go_wp2_with (at_builtin
                   refine wpList_app rfl (.tmp 6) (.tmp 11) rfl w.heap.size _ l rfl (hown.later ((Below.refl _ _).alloc (Nat.le_refl _) _)) _ [m % 128 + 128] rfl (rd_one wr _ _ (by omega) (by omega)) (by simp; omega) (by simp; omega) ?_
                   intro v1 w1 hown1 hb1)
      go_roundw
      case rel =>
        refine ⟨m / 128, l ++ [m % 128 + 128], by go_num, by omega, hown1, (hbw.alloc hle _).trans hb1, Lib.hid ?_⟩
        rw [← HE.out, HB.out, List.append_assoc]
        rfl
      case measure => simp [intOf]; omega
    · have HB := Lib.hid (Leb.enc_small m (by omega))
      go_wp2_with (at_builtin
                   refine wpList_app rfl (.tmp 15) (.tmp 18) rfl w.heap.size _ l rfl (hown.later ((Below.refl _ _).alloc (Nat.le_refl _) _)) _ [m] rfl (rd_one wr _ _ (by omega) (by omega)) (by simp; omega) (by simp; omega) ?_
                   intro v1 w1 hown1 hb1)
      go_ret
      refine ⟨v1, rfl, ?_, (hbw.alloc hle _).trans hb1⟩
      rw [← HE.out, HB.out]
      exact hown1

set_option maxHeartbeats 400000 in
theorem rput (v : Value) (l : List Nat) (x : Int) (w : World) (h : Rd w w.heap.size v l) (hl : l.length ≤ 1000000) (h0 : 0 ≤ x) (h1 : x ≤ 18446744073709551615) :
    Calls Try.prog 31 #[v, .int .u64 x] w fun e w' => ∃ r, e = .returned r ∧ Own w' w.heap.size r (l ++ Leb.enc x.toNat) ∧ Below w.heap.size w w' := by
  have hm := Leb.enc_len x.toNat
  go_enter Try.func31, Try.ntmps31
  go_wp2_with fail
  refine (copyBytes _ _ _ h hl).mono ?_
  rintro e w1 ⟨r, rfl, ho, hb⟩
  go_wp2_with fail
  refine (rbytes _ _ h0 h1).mono ?_
  rintro e w2 ⟨r2, rfl, ho2, hb2⟩
  go_wp2_with (at_builtin
               refine wpList_app rfl (.tmp 6) (.tmp 8) rfl w.heap.size r l rfl (ho.later hb2) r2 _ rfl ho2.rd (by omega) (Nat.le_trans hb.size hb2.size) ?_
               intro v1 w3 hown1 hb3)
  go_ret
  exact ⟨v1, rfl, hown1, (hb.trans (hb2.mono hb.size)).trans hb3⟩

end Go.Proofs.Ytenfjmdajlhfoaa
