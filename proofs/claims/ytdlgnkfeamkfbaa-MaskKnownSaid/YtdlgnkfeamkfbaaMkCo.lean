/- The walks of MaskCounts and MaskKnown. -/
import Derived.Test.YtdlgnkfeamkfbaaMkPk
import Derived.BigRegion
import Derived.Laws.BitsAllLaws
namespace Go.Proofs.Ytdlgnkfeamkfbaa
open Go.RowKit
set_option linter.unusedVariables false
set_option maxRecDepth 100000

theorem and8n : ∀ (c : Fin 256) (m : Fin 8), bits BinOp.and IntKind.u8 ((c.val : Int) / 2 ^ m.val) 1 = ((c.val / 2 ^ m.val % 2 : Nat) : Int) := by decide +kernel
theorem xor8n (c d : Nat) (hc : c < 256) (hd : d < 256) : bits BinOp.xor IntKind.u8 (c : Int) (d : Int) = ((c ^^^ d : Nat) : Int) := u8_xor_nat c d hc hd
theorem heap_set_far (W : World) {p : Addr} (v : Value) {g : Nat} (h : p.block ≠ g) : (W.setCell p v).heap[g]? = W.heap[g]? := by
  simp only [World.setCell, Array.getElem?_modify]
  rw [if_neg h]
theorem Own.far {W : World} {B : Nat} {v : Value} {l : List Nat} (h : Own W B v l) {p : Addr} (hp : p.block < B) (x : Value) : Own (W.setCell p x) B v l := by
  obtain ⟨⟨h0, h1⟩, hb⟩ := h
  refine ⟨⟨h0, ?_⟩, hb⟩
  rcases h1 with h1 | ⟨g, cap, cur, rfl, hg, hh, r⟩
  · exact .inl h1
  · exact .inr ⟨g, cap, cur, rfl, hg, (heap_set_far W x (by omega)).trans hh, r⟩
set_option maxHeartbeats 4000000 in
theorem maskCounts (v : Value) (l : List Bool) (z : Int) (w : World) (h : RdB w w.heap.size v l) (z0 : -9223372036854775808 ≤ z) (z1 : z ≤ 9223372036854775807) :
    Calls Try.prog 8 #[v, .int .i64 z] w fun e w' => e = .returned (.bool true) ∧ Below w.heap.size w w' := by
  go_enter Try.func8, Try.ntmps8
  go_wp2_with fail
  refine (cutB v l _ h).mono ?_
  rintro e w1 ⟨r1, rfl, o1, b1⟩
  have hml : (l.take 300).length ≤ 300 := by rw [List.length_take]; omega
  generalize l.take 300 = m at *
  obtain ⟨a1, c1, rfl⟩ := o1.form0
  have O1 := Lib.hid o1
  have B1 := Lib.hid b1
  clear o1 b1 h
  go_wp2_with fail
  refine (pack _ m _ (RdB.of O1.out) (by omega)).mono ?_
  rintro e w2 ⟨r2, rfl, o2, b2⟩
  obtain ⟨s, hs⟩ : ∃ s, Mk.sz m.length = s := ⟨_, rfl⟩
  rw [hs] at o2
  have hs2 : s ≤ 100 := by rw [← hs]; unfold Mk.sz; omega
  have hs8 : m.length ≤ 8 * s := by rw [← hs]; unfold Mk.sz; omega
  have hpl := Mk.pk_len s m
  have HCP := Lib.hid (Mk.cnt_pk s m hs8)
  have HUG := Lib.hid (Mk.ub_get (Mk.pk s m))
  have hul := Mk.ub_len (Mk.pk s m)
  have HFL := Lib.hid (Mk.pk_flip s m)
  have HS := Lib.hid hs
  obtain ⟨a2, c2, rfl, hc2⟩ := o2.form1
  rw [hpl] at o2 hc2 hul ⊢
  have O2 := Lib.hid o2.rd
  have O2O := Lib.hid o2
  have O12 := Lib.hid (Gn.Own.later O1.out b2)
  have B2 := Lib.hid (up B1.out b2)
  generalize Mk.ub (Mk.pk s m) = U at *
  generalize hP : Mk.pk s m = P at *
  clear o2 b2 hs B1
  go_wp2
  go_loop [7, 8] (fun nv i => ∃ k q : Nat, k ≤ 8 * s ∧ i = .int .i64 (k : Nat) ∧ nv = .int .i64 (q : Nat) ∧ Hid (Mk.cnt (U.take k) = q)) (fun _ i => 8 * s - (intOf i).toNat)
  case atStart => exact ⟨0, 0, by omega, rfl, rfl, Lib.hid (by simp [Mk.cnt])⟩
  case round =>
    obtain ⟨k, q, hk, rfl, rfl, HQ⟩ := hrel
    by_cases hlt : k < 8 * s
    · have hlt1 : (k : Int) < 8 * (s : Int) := by omega
      obtain ⟨j, hj⟩ : ∃ j, k / 8 = j := ⟨_, rfl⟩
      obtain ⟨t, ht⟩ : ∃ t, k % 8 = t := ⟨_, rfl⟩
      have ht8 : t < 8 := by omega
      have hjs : j < s := by omega
      have e1 : (k : Int) / 8 = (j : Int) := by omega
      have e2 : (k : Int) % 8 = (t : Int) := by omega
      have hji : (j : Int) < (s : Int) := by omega
      obtain ⟨ba, off, rfl, p0, hc3⟩ := rd_cell O2.out (Below.refl _ _) (i := j) (by omega)
      have hug := HUG.out k (by omega)
      rw [hj, ht] at hug
      have HN : Hid (Mk.cnt (U.take (k + 1)) = q + P.getD j 0 / 2 ^ t % 2) := Lib.hid (by rw [Mk.cnt_take U k (by omega), HQ.out, hug, Mk.bit_half])
      have HX := Lib.hid (and8n ⟨P.getD j 0, hc3⟩ ⟨t, ht8⟩)
      have hq2 : q ≤ k := by have := Mk.cnt_le (U.take k); rw [HQ.out, List.length_take] at this; omega
      generalize P.getD j 0 = cc at *
      obtain ⟨y, hy⟩ : ∃ y, cc / 2 ^ t % 2 = y := ⟨_, rfl⟩
      have hy2 : y < 2 := by omega
      rw [hy] at HN
      simp only [hy] at HX
      have hxx := HX.out
      clear hug hj ht HQ HX hy
      go_wp2
      go_round
      case rel => exact ⟨k + 1, q + y, by omega, by go_num, by go_num, HN⟩
      case measure => simp [intOf]; omega
    · obtain rfl : k = 8 * s := by omega
      have hlt1 : ¬ ((8 * s : Nat) : Int) < 8 * (s : Int) := by omega
      have HC : Hid (Mk.cnt m = q) := Lib.hid (by have := HQ.out; rw [List.take_of_length_le (by omega), HCP.out] at this; exact this)
      clear HQ HCP HUG
      go_wp2_with fail
      refine (count _ m _ (RdB.of O12.out) q HC.out).mono ?_
      rintro e w' ⟨rfl, rfl⟩
      by_cases hm0 : m.length = 0
      · have hm1 : ((m.length : Int) == 0) = true := by simp [hm0]
        go_wp2_with fail
        refine (works _).mono ?_
        rintro e w9 ⟨rfl, b9⟩
        go_wp2
        go_ret
        exact ⟨rfl, up B2.out b9⟩
      · have hm1 : ((m.length : Int) == 0) = false := by simpa using hm0
        obtain ⟨i, hi⟩ := Int.eq_ofNat_of_zero_le (Int.emod_nonneg z (b := (m.length : Int)) (by omega))
        have hil : i < m.length := by have := Int.emod_lt_of_pos z (b := (m.length : Int)) (by omega); omega
        have HBR := Lib.hid (fun w3 => bring z (m.length : Int) w3 z0 z1 (by omega) (by omega))
        rw [hi] at HBR
        obtain ⟨g, cap, e1, hg, hgl, hgc, hgm⟩ := OwnB.form O1.out (by omega)
        injection e1 with e3 e4 e5
        subst e3 e5
        have hcl := OwnB.cell O12.out rfl i hil
        have hfz := OwnB.melt O12.out rfl i
        have hst := Lib.hid (OwnB.stored O12.out rfl i (!m.getD i false))
        have hfl := Lib.hid (fun j hj => HFL.out i j hil hj)
        have hmi : (i : Int) < (m.length : Int) := by omega
        have O3 := Lib.hid (O2O.out.far (p := ⟨g, i, none⟩) hgl (.bool (!m.getD i false)))
        have B3 := Lib.hid (B2.out.setCell (p := ⟨g, i, none⟩) hg (.bool (!m.getD i false)))
        have hsl : (m.set i (!m.getD i false)).length = m.length := by rw [List.length_set]
        obtain ⟨m', hm'⟩ : ∃ m', m.set i (!m.getD i false) = m' := ⟨_, rfl⟩
        rw [hm'] at hst hfl hsl
        generalize m.getD i false = mx at *
        clear hm' hi O12 O2 O2O B2 O1 HFL e4
        go_wp2_with fail
        refine (HBR.out _).mono ?_
        rintro e w' ⟨rfl, rfl⟩
        clear HBR
        go_wp2_with fail
        clear hcl hfz
        obtain ⟨w3, hw3⟩ : ∃ x, w2.setCell ⟨g, i, none⟩ (.bool (!mx)) = x := ⟨_, rfl⟩
        rw [hw3] at hst O3 B3 ⊢
        refine (pack _ m' _ (RdB.of hst.out) (by omega)).mono ?_
        rintro e w4 ⟨r4, rfl, o4, b4⟩
        rw [hsl, HS.out] at o4
        have hpl2 := Mk.pk_len s m'
        obtain ⟨a4, c4, rfl, hc4⟩ := o4.form1
        generalize Mk.pk s m' = Q at *
        rw [hpl2] at o4 hc4 ⊢
        have O4 := Lib.hid o4.rd
        have O34 := Lib.hid (O3.out.rd.later (Nat.le_refl _) b4)
        have B4 := Lib.hid (up B3.out b4)
        clear o4 b4 O3 B3 hst hw3
        obtain ⟨j0, hj0⟩ : ∃ j, i / 8 = j := ⟨_, rfl⟩
        obtain ⟨t0, ht0⟩ : ∃ t, i % 8 = t := ⟨_, rfl⟩
        rw [hj0, ht0] at hfl
        have e8 : (i : Int) / 8 = (j0 : Int) := by omega
        have e9 : (i : Int) % 8 = (t0 : Int) := by omega
        have ht8 : t0 < 8 := by omega
        clear hj0 ht0
        go_wp2
        go_loopw [10] (fun iv wr => ∃ k : Nat, k ≤ s ∧ iv = .int .i64 (k : Nat) ∧ Hid (Below w4.heap.size w4 wr)) (fun iv _ => s - (intOf iv).toNat)
        case atStart => exact ⟨0, by omega, rfl, Lib.hid (Below.refl _ _)⟩
        case round =>
          obtain ⟨k, hk, rfl, HB⟩ := hrel
          by_cases hlt : k < s
          · have hks : (k : Int) < (s : Int) := by omega
            obtain ⟨b1', f1', rfl, p1, d1⟩ := rd_cell O34.out HB.out (i := k) (by omega)
            obtain ⟨b2', f2', rfl, p2, d2⟩ := rd_cell O4.out HB.out (i := k) (by omega)
            have hx := hfl.out k hlt
            generalize P.getD k 0 = x at *
            generalize Q.getD k 0 = y at *
            have hxy := xor8n x y d1 d2
            rw [hx] at hxy
            by_cases hkj : k = j0
            · subst hkj
              rw [if_pos rfl] at hxy
              have h2t : 2 ^ t0 ≤ 128 := by
                have : 2 ^ t0 ≤ 2 ^ 7 := Nat.pow_le_pow_right (by omega) (by omega)
                omega
              obtain ⟨pt, hpt⟩ : ∃ p, 2 ^ t0 = p := ⟨_, rfl⟩
              rw [hpt] at hxy h2t
              have hq : ((2 : Int) ^ t0 % 256) = (pt : Int) := by
                rw [show ((2 : Int) ^ t0) = ((2 ^ t0 : Nat) : Int) by simp, hpt]; omega
              have hkk : ((k : Int) == (k : Int)) = true := by simp
              clear hx hpt
              go_wp2
              go_region
              go_wp2
              go_roundw
              case rel => exact ⟨k + 1, by omega, by go_num, Lib.hid HB.out.drew⟩
              case measure => simp [intOf]; omega
            · rw [if_neg hkj] at hxy
              have hkk : ((k : Int) == (j0 : Int)) = false := by rw [beq_eq_false_iff_ne]; omega
              clear hx
              go_wp2
              go_region
              go_wp2
              go_roundw
              case rel => exact ⟨k + 1, by omega, by go_num, Lib.hid HB.out.drew⟩
              case measure => simp [intOf]; omega
          · obtain rfl : k = s := by omega
            have hks : ¬ (k : Int) < (k : Int) := by omega
            have BW := Lib.hid (up B4.out HB.out)
            clear HB B4
            go_wp2_with fail
            refine (works _).mono ?_
            rintro e w9 ⟨rfl, b9⟩
            go_wp2
            go_ret
            exact ⟨rfl, up BW.out b9⟩

def inc (x : Int) : List Value := [.int .i64 x]
theorem inL : Gn.Lay inc 1 := ⟨fun _ => rfl, fun x v hv => by simp [inc] at hv; subst hv; rfl, by omega⟩
def ends : List Int := [-9223372036854775808, -8, -1, 0, 1, 7, 8, 9, 1048575, 1048576, 1048577, 9223372036854775800, 9223372036854775807]
theorem ends_at (w : World) : Gn.Rd inc 1 (w.alloc (.cells #[.int .i64 (-9223372036854775808), .int .i64 (-8), .int .i64 (-1), .int .i64 0, .int .i64 1, .int .i64 7, .int .i64 8, .int .i64 9, .int .i64 1048575, .int .i64 1048576, .int .i64 1048577, .int .i64 9223372036854775800, .int .i64 9223372036854775807] 3)) (w.alloc (.cells #[.int .i64 (-9223372036854775808), .int .i64 (-8), .int .i64 (-1), .int .i64 0, .int .i64 1, .int .i64 7, .int .i64 8, .int .i64 9, .int .i64 1048575, .int .i64 1048576, .int .i64 1048577, .int .i64 9223372036854775800, .int .i64 9223372036854775807] 3)).heap.size (.slice (some ⟨w.heap.size, 0, none⟩) 13 13) ends :=
  Gn.Own.rd inL (Gn.Own.lit (T := 3) inL w 0 ends _ 13 13 rfl rfl rfl (by simp [maxLen, ends]) (Nat.zero_le _))
theorem ends_lt : ∀ z ∈ ([-9223372036854775808, -8, -1, 0, 1, 7, 8, 9, 1048575, 1048576, 1048577, 9223372036854775800, 9223372036854775807] : List Int), -9223372036854775808 ≤ z ∧ z ≤ 9223372036854775807 := by decide
set_option maxHeartbeats 4000000 in
theorem maskKnown (w : World) : Calls Try.prog 9 #[] w fun e w' => e = .returned (.bool true) ∧ Below w.heap.size w w' := by
  go_enter Try.func9, Try.ntmps9
  go_wp2
  go_loopw [1] (fun iv wr => ∃ k : Nat, k ≤ 256 ∧ iv = .int .i64 (k : Nat) ∧ Hid (Below w.heap.size w wr)) (fun iv _ => 256 - (intOf iv).toNat)
  case atStart => exact ⟨0, by omega, rfl, Lib.hid (Below.refl _ _)⟩
  case round =>
    obtain ⟨k, hk, rfl, HB⟩ := hrel
    by_cases hlt : k < 256
    · have hk1 : (k : Int) < 256 := by omega
      have hdk : decide ((k : Int) < 256) = true := by simp; omega
      have ek : IntKind.u8.wrap (k : Int) = (k : Int) := by rw [IntKind.wrap_u8]; omega
      have ek2 : (k : Int) % 256 = (k : Int) := by omega
      go_wp2
      go_loopw [2] (fun iv wx => ∃ j : Nat, j ≤ 11 ∧ iv = .int .i64 ((j : Int) - 1) ∧ Hid (Below w.heap.size w wx)) (fun iv _ => (10 - intOf iv).toNat)
      case atStart => exact ⟨0, by omega, by rfl, HB⟩
      case round =>
        clear HB
        obtain ⟨j, hj, rfl, HB⟩ := hrel
        by_cases hjl : j < 11
        · have hj1 : (j : Int) - 1 < 10 := by omega
          have R1 := Lib.hid (rd_lit wr [k] #[.int .u8 (k : Int)] 1 rfl rfl (by simp) (by simp; omega))
          have HB1 := Lib.hid (HB.out.alloc HB.out.size (.cells #[.int .u8 (k : Int)] 5))
          go_wp2_with fail
          refine (maskReads _ [k] ((j : Int) - 1) _ R1.out (by omega) (by omega)).mono ?_
          rintro e w2 ⟨rfl, b2⟩
          have R2 := Lib.hid (rd_lit w2 [k] #[.int .u8 (k : Int)] 1 rfl rfl (by simp) (by simp; omega))
          have HB2 := Lib.hid (up_box2 HB1.out b2 (.cells #[.int .u8 (k : Int)] 5))
          clear R1 HB1 b2 HB
          go_wp2_with fail
          refine (maskOnly _ [k] ((j : Int) - 1) _ R2.out (by omega) (by omega)).mono ?_
          rintro e w3 ⟨rfl, b3⟩
          have HB3 := Lib.hid (up HB2.out b3)
          clear R2 HB2 b3
          go_wp2
          go_roundw
          case rel => exact ⟨j + 1, by omega, by go_num, HB3⟩
          case measure => simp [intOf]; omega
        · obtain rfl : j = 11 := by omega
          go_wp2
          go_roundw
          case rel => exact ⟨k + 1, by omega, by go_num, HB⟩
          case measure => simp [intOf]; omega
    · obtain rfl : k = 256 := by omega
      have HE := Lib.hid (ends_at wr)
      have hW := HB.out.alloc HB.out.size (.cells #[.int .i64 (-9223372036854775808), .int .i64 (-8), .int .i64 (-1), .int .i64 0, .int .i64 1, .int .i64 7, .int .i64 8, .int .i64 9, .int .i64 1048575, .int .i64 1048576, .int .i64 1048577, .int .i64 9223372036854775800, .int .i64 9223372036854775807] 3)
      go_wp2
      obtain ⟨w2, hw2⟩ : ∃ x, wr.alloc (.cells #[.int .i64 (-9223372036854775808), .int .i64 (-8), .int .i64 (-1), .int .i64 0, .int .i64 1, .int .i64 7, .int .i64 8, .int .i64 9, .int .i64 1048575, .int .i64 1048576, .int .i64 1048577, .int .i64 9223372036854775800, .int .i64 9223372036854775807] 3) = x := ⟨_, rfl⟩
      obtain ⟨g, hg⟩ : ∃ x, wr.heap.size = x := ⟨_, rfl⟩
      rw [hw2] at HE hW
      rw [hg] at HE
      simp only [hw2, hg, show ((256 : Nat) : Int) = 256 from rfl]
      have HW := Lib.hid hW
      have hel : ends.length = 13 := rfl
      have HIN := Lib.hid ends_lt
      clear hW hw2 hg HB
      go_loopw [4] (fun iv wx => ∃ k : Nat, k ≤ 13 ∧ iv = .int .i64 (k : Nat) ∧ Hid (Below w2.heap.size w2 wx)) (fun iv _ => 13 - (intOf iv).toNat)
      case atStart => exact ⟨0, by omega, rfl, Lib.hid (Below.refl _ _)⟩
      case round =>
        obtain ⟨k, hk, rfl, HB⟩ := hrel
        by_cases hlt : k < 13
        · have hk1 : (k : Int) < 13 := by omega
          obtain ⟨z, hz⟩ : ∃ z, ends[k]? = some z := ⟨_, List.getElem?_eq_getElem (by omega)⟩
          obtain ⟨zl, zh⟩ := HIN.out z (List.mem_of_getElem? hz)
          have hc : ∀ wx, Below w2.heap.size w2 wx → wx.cell? ⟨g, k, none⟩ = some (.int .i64 z) := fun wx hb => by
            obtain ⟨b, off, e, _, hcc⟩ := Gn.Rd.at HE.out hb (i := k) (by omega)
            injection e with e
            injection e with e1 e2
            subst e1 e2
            have := hcc 0 (.int .i64 z) (by obtain ⟨_, e⟩ := List.getElem?_eq_some_iff.1 hz; rw [e]; rfl)
            simpa using this
          have HC := Lib.hid hc
          have p0 := hc _ HB.out
          clear hz hc
          go_wp2_with fail
          refine (maskPacks (.slice none 0 0) [] z _ (Gn.Rd.nil _ _) zl zh).mono ?_
          rintro e w3 ⟨rfl, b3⟩
          clear p0
          have R3 := Lib.hid (rd_lit w3 [1, 2, 3] #[.int .u8 1, .int .u8 2, .int .u8 3] 3 rfl rfl (by simp) (by simp))
          have hb3 := up_box2 HB.out b3 (.cells #[.int .u8 1, .int .u8 2, .int .u8 3] 5)
          have p1 := HC.out _ hb3
          have HB3 := Lib.hid hb3
          clear hb3 b3 HB
          go_wp2_with fail
          refine (maskReads _ [1, 2, 3] z _ R3.out zl zh).mono ?_
          rintro e w4 ⟨rfl, b4⟩
          have HB4 := Lib.hid (up HB3.out b4)
          clear R3 HB3 b4 p1
          go_wp2
          go_roundw
          case rel => exact ⟨k + 1, by omega, by go_num, HB4⟩
          case measure => simp [intOf]; omega
        · obtain rfl : k = 13 := by omega
          have BW := Lib.hid (HW.out.trans (HB.out.mono HW.out.size))
          go_wp2_with fail
          refine (works _).mono ?_
          rintro e w9 ⟨rfl, b9⟩
          go_wp2
          go_ret
          exact ⟨rfl, up BW.out b9⟩
end Go.Proofs.Ytdlgnkfeamkfbaa
