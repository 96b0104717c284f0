/- UtfKnown's walk. -/
import Derived.Test.YtpmfalcmlkcafaaDoorQuotes
import Derived.BigRegion
import Derived.Deep.RegionHeld3
namespace Go.Proofs.YtpmfalcmlkcafaaDoor
open Go.RowKit
set_option linter.unusedVariables false

def heads : List ByteArray := [⟨#[]⟩, ⟨#[97]⟩, ⟨#[194]⟩, ⟨#[223]⟩, ⟨#[224]⟩, ⟨#[224, 160]⟩, ⟨#[225, 128]⟩, ⟨#[237]⟩, ⟨#[239, 191]⟩, ⟨#[240]⟩, ⟨#[240, 144]⟩, ⟨#[241, 128, 128]⟩, ⟨#[244]⟩, ⟨#[244, 143, 191]⟩, ⟨#[92]⟩, ⟨#[92, 117]⟩, ⟨#[92, 117, 100]⟩, ⟨#[92, 117, 68, 56]⟩, ⟨#[92, 117, 48, 48]⟩,
  ⟨#[92, 117, 100, 56, 51]⟩, ⟨#[92, 117, 100, 56, 51, 100]⟩, ⟨#[92, 117, 100, 56, 51, 100, 92]⟩, ⟨#[92, 117, 100, 56, 51, 100, 92, 117]⟩, ⟨#[92, 117, 100, 56, 51, 100, 92, 117, 100]⟩, ⟨#[92, 117, 100, 56, 51, 100, 92, 117, 100, 99, 48]⟩]
def ends : List Int := [-2147483648, -1, 0, 127, 128, 2047, 2048, 55295, 55296, 56319, 56320, 57343, 57344, 65535, 65536, 1114111, 1114112, 2147483647]
theorem heads_len : heads.length = 25 := rfl
theorem ends_len : ends.length = 18 := rfl
theorem heads_size : ∀ h ∈ heads, h.size ≤ 12 := by decide
theorem ends_fit : ∀ r ∈ ends, -2147483648 ≤ r ∧ r ≤ 2147483647 := by decide
/-- A row that was laid. -/
theorem row_cell (w : World) (T : TypeId) (cs : List Value) (arr : Array Value) (h : arr = cs.toArray) (k : Nat) (v : Value) (hk : cs[k]? = some v) : (w.alloc (.cells arr T)).cell? ⟨w.heap.size, k, none⟩ = some v := by
  subst h
  rw [cell_of_row _ _ _ _ _ _ (heap_alloc_new w _)]
  simpa using hk
/-- Put answers some text of four bytes at most. -/
theorem put_some (r : Int) (h0 : -2147483648 ≤ r) (h1 : r ≤ 2147483647) : ∃ (u : ByteArray) (x : Bool), u.size ≤ 4 ∧ ∀ w, Calls Tryd.prog 11 #[.int .i32 r] w fun e w' => e = .returned (.tuple #[.string u, .bool x]) ∧ w = w' := by
  by_cases hr : isR r
  · obtain ⟨q, rfl⟩ : ∃ q : Nat, r = q := ⟨r.toNat, by have := hr.1; omega⟩
    exact ⟨str (Utf.enc q), true, by rw [str_size]; exact (Utf.enc_len q).2, fun w => put_yes q w ((isR_nat q).1 hr)⟩
  · exact ⟨⟨#[]⟩, false, by decide, fun w => put_no r w hr⟩
theorem keepS {W0 w1 w2 : World} {p : Addr} {v : Value} (hc : ∀ wx, Below W0.heap.size W0 wx → wx.cell? p = some v) (h : Below W0.heap.size W0 w1) (hb : Below w1.heap.size w1 w2) : Below W0.heap.size W0 w2 ∧ w2.cell? p = some v :=
  ⟨up h hb, hc _ (up h hb)⟩
set_option maxHeartbeats 16000000 in
set_option maxRecDepth 100000 in
theorem utfKnown (w : World) (T : Tab w) :
    Calls Tryd.prog 4 #[] w fun e w' => e = .returned (.bool true) ∧ Below w.heap.size w w' := by
  have HT := Lib.hid T
  have HC := Lib.hid (fun (k : Nat) (h : ByteArray) (hk : heads[k]? = some h) => row_cell w 9 (heads.map Value.string) (heads.map Value.string).toArray rfl k (.string h) (by rw [List.getElem?_map, hk]; rfl))
  have HB0 := Lib.hid (up_new w (.cells (heads.map Value.string).toArray 9))
  clear T
  have e0 : (heads.map Value.string).toArray = #[.string ⟨#[]⟩, .string ⟨#[97]⟩, .string ⟨#[194]⟩, .string ⟨#[223]⟩, .string ⟨#[224]⟩, .string ⟨#[224, 160]⟩, .string ⟨#[225, 128]⟩, .string ⟨#[237]⟩, .string ⟨#[239, 191]⟩, .string ⟨#[240]⟩, .string ⟨#[240, 144]⟩, .string ⟨#[241, 128, 128]⟩, .string ⟨#[244]⟩, .string ⟨#[244, 143, 191]⟩, .string ⟨#[92]⟩, .string ⟨#[92, 117]⟩, .string ⟨#[92, 117, 100]⟩, .string ⟨#[92, 117, 68, 56]⟩, .string ⟨#[92, 117, 48, 48]⟩,
    .string ⟨#[92, 117, 100, 56, 51]⟩, .string ⟨#[92, 117, 100, 56, 51, 100]⟩, .string ⟨#[92, 117, 100, 56, 51, 100, 92]⟩, .string ⟨#[92, 117, 100, 56, 51, 100, 92, 117]⟩, .string ⟨#[92, 117, 100, 56, 51, 100, 92, 117, 100]⟩, .string ⟨#[92, 117, 100, 56, 51, 100, 92, 117, 100, 99, 48]⟩] := rfl
  rw [e0] at HC HB0
  clear e0
  go_enter Tryd.func4, Tryd.ntmps4
  go_wp2_with fail
  generalize w.alloc (.cells #[.string ⟨#[]⟩, .string ⟨#[97]⟩, .string ⟨#[194]⟩, .string ⟨#[223]⟩, .string ⟨#[224]⟩, .string ⟨#[224, 160]⟩, .string ⟨#[225, 128]⟩, .string ⟨#[237]⟩, .string ⟨#[239, 191]⟩, .string ⟨#[240]⟩, .string ⟨#[240, 144]⟩, .string ⟨#[241, 128, 128]⟩, .string ⟨#[244]⟩, .string ⟨#[244, 143, 191]⟩, .string ⟨#[92]⟩, .string ⟨#[92, 117]⟩, .string ⟨#[92, 117, 100]⟩, .string ⟨#[92, 117, 68, 56]⟩, .string ⟨#[92, 117, 48, 48]⟩,
    .string ⟨#[92, 117, 100, 56, 51]⟩, .string ⟨#[92, 117, 100, 56, 51, 100]⟩, .string ⟨#[92, 117, 100, 56, 51, 100, 92]⟩, .string ⟨#[92, 117, 100, 56, 51, 100, 92, 117]⟩, .string ⟨#[92, 117, 100, 56, 51, 100, 92, 117, 100]⟩, .string ⟨#[92, 117, 100, 56, 51, 100, 92, 117, 100, 99, 48]⟩] 9) = W0 at *
  have HG : Hid (w.heap.size < W0.heap.size) := Lib.hid (by
    have := HC.out 0 _ rfl
    rcases Nat.lt_or_ge w.heap.size W0.heap.size with hlt | hge
    · exact hlt
    · simp [World.cell?, Array.getElem?_eq_none hge] at this)
  go_loopw [2] (fun i ww => ∃ c : Nat, c ≤ 256 ∧ i = .int .i64 c ∧ Hid (Below W0.heap.size W0 ww)) (fun i _ => 256 - (intOf i).toNat)
  case atStart => exact ⟨0, by omega, rfl, Lib.hid (Below.refl _ _)⟩
  case round =>
    obtain ⟨c, hc, rfl, HB⟩ := hrel
    by_cases hlt : c < 256
    · have hlt' : (c : Int) < 256 := by omega
      have cv := run_str (wr.alloc (.cells #[.int .u8 (c : Int)] 5)) _ _ [c] (rd_lit wr [c] #[.int .u8 (c : Int)] 1 rfl rfl (by simp) (by simp; omega))
      have HB1 := Lib.hid (up HB.out (up_new wr (.cells #[.int .u8 (c : Int)] 5)))
      have hsz := str_size [c]
      simp only [List.length_cons, List.length_nil] at hsz
      generalize str [c] = b at *
      clear HB
      go_wp2_with fail
      generalize wr.alloc (.cells #[.int .u8 (c : Int)] 5) = W1 at *
      clear cv
      go_loopw [4] (fun i ww => ∃ k : Nat, k ≤ 25 ∧ i = .int .i64 k ∧ Hid (Below W0.heap.size W0 ww)) (fun i _ => 25 - (intOf i).toNat)
      case atStart => exact ⟨0, by omega, rfl, HB1⟩
      case round =>
        clear HB1
        obtain ⟨k, hk, rfl, HB⟩ := hrel
        by_cases hkt : k < 25
        · have hkt' : (k : Int) < 25 := by omega
          obtain ⟨h, hh⟩ : ∃ h, heads[k]? = some h := ⟨_, List.getElem?_eq_getElem (by rw [heads_len]; exact hkt)⟩
          have hz := heads_size h (List.mem_of_getElem? hh)
          have HW := Lib.hid (fun (wx : World) (hb : Below W0.heap.size W0 wx) => (hb.cell (p := ⟨w.heap.size, k, none⟩) HG.out).trans (HC.out k h hh))
          have g0 := HW.out _ HB.out
          have u34 : (⟨#[34]⟩ : ByteArray).size = 1 := rfl
          have u191 : (⟨#[191]⟩ : ByteArray).size = 1 := rfl
          have u128 : (⟨#[128, 128]⟩ : ByteArray).size = 2 := rfl
          have u48 : (⟨#[48, 48, 34]⟩ : ByteArray).size = 3 := rfl
          have m1 := no_over h b (by omega)
          have m3 := no_over ⟨#[34]⟩ h (by omega)
          have p1 : ¬ 9223372036854775807 < h.size + b.size + 2 := by omega
          have p2 : ¬ 9223372036854775807 < 1 + h.size := by omega
          have p3 : ¬ 9223372036854775807 < 1 + h.size + b.size := by omega
          have p4 : ¬ 9223372036854775807 < h.size + b.size + 1 := by omega
          have p5 : ¬ 9223372036854775807 < 1 + h.size + b.size + 1 := by omega
          have p6 : ¬ 9223372036854775807 < 1 + h.size + b.size + 3 := by omega
          have p7 : ¬ 9223372036854775807 < h.size + b.size + (⟨#[128, 128]⟩ : ByteArray).size := by omega
          have p8 : ¬ 9223372036854775807 < (⟨#[34]⟩ : ByteArray).size + h.size + b.size := by omega
          have p9 : ¬ 9223372036854775807 < h.size + b.size + (⟨#[191]⟩ : ByteArray).size := by omega
          have p10 : ¬ 9223372036854775807 < (⟨#[34]⟩ : ByteArray).size + h.size + b.size + (⟨#[34]⟩ : ByteArray).size := by omega
          have p11 : ¬ 9223372036854775807 < (⟨#[34]⟩ : ByteArray).size + h.size + b.size + (⟨#[48, 48, 34]⟩ : ByteArray).size := by omega
          have y1 : (h ++ b).size ≤ maxLen := by simp only [ByteArray.size_append]; unfold maxLen; omega
          have y2 : (h ++ b ++ ⟨#[128, 128]⟩).size ≤ maxLen := by simp only [ByteArray.size_append]; unfold maxLen; omega
          have y4 : (⟨#[34]⟩ ++ h ++ b).size ≤ maxLen := by simp only [ByteArray.size_append]; unfold maxLen; omega
          have y5 : (h ++ b ++ ⟨#[191]⟩).size ≤ maxLen := by simp only [ByteArray.size_append]; unfold maxLen; omega
          have y6 : (⟨#[34]⟩ ++ h ++ b ++ ⟨#[34]⟩).size ≤ maxLen := by simp only [ByteArray.size_append]; unfold maxLen; omega
          have y7 : (⟨#[34]⟩ ++ h ++ b ++ ⟨#[48, 48, 34]⟩).size ≤ maxLen := by simp only [ByteArray.size_append]; unfold maxLen; omega
          have y0 : b.size ≤ maxLen := by unfold maxLen; omega
          have HT0 := Lib.hid (fun (wx : World) (hb : Below W0.heap.size W0 wx) => HT.out.later (up HB0.out hb))
          have r1 := Lib.hid (fun wx T => utfRunes (h ++ b) (c : Int) wx y1 (by omega) (by omega) T)
          have r2 := Lib.hid (fun wx T => utfRunes (h ++ b ++ ⟨#[128, 128]⟩) ((c : Int) * 4096) wx y2 (by omega) (by omega) T)
          have r3 := Lib.hid (fun wx T => utfQuotes (h ++ b) (⟨#[34]⟩ ++ h ++ b) wx y1 y4 T)
          have r4 := Lib.hid (fun wx T => utfQuotes (h ++ b ++ ⟨#[191]⟩) (⟨#[34]⟩ ++ h ++ b ++ ⟨#[34]⟩) wx y5 y6 T)
          have r5 := Lib.hid (fun wx T => utfQuotes b (⟨#[34]⟩ ++ h ++ b ++ ⟨#[48, 48, 34]⟩) wx y0 y7 T)
          have HSZ := Lib.hid hsz
          clear y0 y1 y2 y4 y5 y6 y7 hh hz hsz u34 u191 u128 u48
          have hw1 : IntKind.i32.wrap (c : Int) = c := by simp [IntKind.wrap, IntKind.bits, IntKind.signed]; omega
          have hw2 : IntKind.i32.wrap ((c : Int) * 4096) = (c : Int) * 4096 := by simp [IntKind.wrap, IntKind.bits, IntKind.signed]; omega
          go_wp2_with fail
          simp only [List.append_eq, List.cons_append, List.nil_append]
          go_region_held3 (fun w' => Below W0.heap.size W0 w' ∧ w'.cell? ⟨w.heap.size, k, none⟩ = some (.string h))
            (first | exact ⟨HB.out, g0⟩ | exact ⟨HB.out.drew, g0⟩ | exact keepS HW.out (And.left (by assumption)) (by assumption))
            (first
              | (go_at_call 10; (with_reducible refine Calls.mono (r1.out _ ?hT) ?_); (case hT => exact HT0.out _ (And.left (by assumption))); rintro e w1 ⟨rfl, b1⟩)
              | (go_at_call 10; (with_reducible refine Calls.mono (r2.out _ ?hT) ?_); (case hT => exact HT0.out _ (And.left (by assumption))); rintro e w1 ⟨rfl, b1⟩)
              | (go_at_call 3; (with_reducible refine Calls.mono (r3.out _ ?hT) ?_); (case hT => exact HT0.out _ (And.left (by assumption))); rintro e w1 ⟨rfl, b1⟩)
              | (go_at_call 3; (with_reducible refine Calls.mono (r4.out _ ?hT) ?_); (case hT => exact HT0.out _ (And.left (by assumption))); rintro e w1 ⟨rfl, b1⟩)
              | (go_at_call 3; (with_reducible refine Calls.mono (r5.out _ ?hT) ?_); (case hT => exact HT0.out _ (And.left (by assumption))); rintro e w1 ⟨rfl, b1⟩))
          have HB6 := Lib.hid (And.left (by assumption : Below W0.heap.size W0 _ ∧ _))
          clear HB r1 r2 r3 r4 r5 g0
          go_wp2_with fail
          go_roundw
          case rel => exact ⟨k + 1, by omega, by go_num, HB6⟩
          case measure => simp [intOf]; omega
        · have hkt' : ¬ (k : Int) < 25 := by omega
          go_wp2_with fail
          go_roundw
          case rel => exact ⟨c + 1, by omega, by go_num, HB⟩
          case measure => simp [intOf]; omega
    · have hlt' : ¬ (c : Int) < 256 := by omega
      have HC2 := Lib.hid (fun (k : Nat) (r : Int) (hk : ends[k]? = some r) => row_cell wr 21 (ends.map (Value.int .i32)) (ends.map (Value.int .i32)).toArray rfl k (.int .i32 r) (by rw [List.getElem?_map, hk]; rfl))
      have HB7 := Lib.hid (up (up HB0.out HB.out) (up_new wr (.cells (ends.map (Value.int .i32)).toArray 21)))
      have HS7 : Hid (wr.heap.size < (wr.alloc (.cells (ends.map (Value.int .i32)).toArray 21)).heap.size) := Lib.hid (by simp)
      have e1 : (ends.map (Value.int .i32)).toArray = #[.int .i32 (-2147483648), .int .i32 (-1), .int .i32 0, .int .i32 127, .int .i32 128, .int .i32 2047, .int .i32 2048, .int .i32 55295, .int .i32 55296, .int .i32 56319, .int .i32 56320, .int .i32 57343, .int .i32 57344, .int .i32 65535, .int .i32 65536, .int .i32 1114111, .int .i32 1114112, .int .i32 2147483647] := rfl
      rw [e1] at HC2 HB7 HS7
      clear e1 HB HC HG HB0
      go_wp2_with fail
      generalize wr.alloc (.cells #[.int .i32 (-2147483648), .int .i32 (-1), .int .i32 0, .int .i32 127, .int .i32 128, .int .i32 2047, .int .i32 2048, .int .i32 55295, .int .i32 55296, .int .i32 56319, .int .i32 56320, .int .i32 57343, .int .i32 57344, .int .i32 65535, .int .i32 65536, .int .i32 1114111, .int .i32 1114112, .int .i32 2147483647] 21) = W2 at *
      generalize wr.heap.size = gr at *
      go_loopw [6] (fun i ww => ∃ k : Nat, k ≤ 18 ∧ i = .int .i64 k ∧ Hid (Below W2.heap.size W2 ww)) (fun i _ => 18 - (intOf i).toNat)
      case atStart => exact ⟨0, by omega, rfl, Lib.hid (Below.refl _ _)⟩
      case round =>
        obtain ⟨k, hk, rfl, HB⟩ := hrel
        have HT0 := Lib.hid (fun (wx : World) (hb : Below W2.heap.size W2 wx) => HT.out.later (up HB7.out hb))
        by_cases hkt : k < 18
        · have hkt' : (k : Int) < 18 := by omega
          obtain ⟨r, hr⟩ : ∃ r, ends[k]? = some r := ⟨_, List.getElem?_eq_getElem (by rw [ends_len]; exact hkt)⟩
          obtain ⟨r0, r1⟩ := ends_fit r (List.mem_of_getElem? hr)
          obtain ⟨u, x, hu, P⟩ := put_some r r0 r1
          have HW := Lib.hid (fun (wx : World) (hb : Below W2.heap.size W2 wx) => (hb.cell (p := ⟨gr, k, none⟩) HS7.out).trans (HC2.out k r hr))
          have g0 := HW.out _ HB.out
          have m1 := no_over ⟨#[34]⟩ u (by rw [show (⟨#[34]⟩ : ByteArray).size = 1 from rfl]; omega)
          have m2 := no_over (⟨#[34]⟩ ++ u) ⟨#[34]⟩ (by rw [ByteArray.size_append, show (⟨#[34]⟩ : ByteArray).size = 1 from rfl]; omega)
          have z1 : u.size ≤ maxLen := by unfold maxLen; omega
          have z2 : (⟨#[34]⟩ ++ u ++ ⟨#[34]⟩).size ≤ maxLen := by rw [ByteArray.size_append, ByteArray.size_append, show (⟨#[34]⟩ : ByteArray).size = 1 from rfl]; unfold maxLen; omega
          have z3 : (⟨#[]⟩ : ByteArray).size ≤ maxLen := by decide
          have k1 := Lib.hid (fun wx T => utfRunes u r wx z1 r0 r1 T)
          have k2 := Lib.hid (fun wx T => utfRunes ⟨#[]⟩ r wx z3 r0 r1 T)
          have k3 := Lib.hid (fun wx T => utfQuotes u (⟨#[34]⟩ ++ u ++ ⟨#[34]⟩) wx z1 z2 T)
          clear z1 z2 z3 hr
          go_wp2_with fail
          ((with_reducible refine (P _).mono ?_); rintro e w' ⟨rfl, rfl⟩)
          go_wp2_with fail
          ((with_reducible refine (k1.out _ (HT0.out _ HB.out)).mono ?_); rintro e w1 ⟨rfl, b1⟩)
          have HB2 := Lib.hid (up HB.out b1)
          have g1 := HW.out _ HB2.out
          clear b1 g0 HB k1
          go_wp2_with fail
          ((with_reducible refine (k2.out _ (HT0.out _ HB2.out)).mono ?_); rintro e w2 ⟨rfl, b2⟩)
          have HB3 := Lib.hid (up HB2.out b2)
          clear b2 g1 HB2 k2
          go_wp2_with fail
          ((with_reducible refine (k3.out _ (HT0.out _ HB3.out)).mono ?_); rintro e w3 ⟨rfl, b3⟩)
          have HB4 := Lib.hid (up HB3.out b3)
          clear b3 HB3 k3
          go_wp2_with fail
          go_roundw
          case rel => exact ⟨k + 1, by omega, by go_num, HB4⟩
          case measure => simp [intOf]; omega
        · have hkt' : ¬ (k : Int) < 18 := by omega
          have HB8 := Lib.hid (up HB7.out HB.out)
          go_wp2_with fail
          ((with_reducible refine (works _ (HT.out.later HB8.out)).mono ?_); rintro e w4 ⟨rfl, b4⟩)
          have HB9 := Lib.hid (up HB8.out b4)
          clear b4
          go_wp2
          go_ret
          exact ⟨rfl, HB9.out⟩
end Go.Proofs.YtpmfalcmlkcafaaDoor
