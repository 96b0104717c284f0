/- UtfSpelt's and UtfCuts' walks. -/
import Derived.Test.YtgjpjimpkdmbcaaDoorSpell
import Derived.Test.YtgjpjimpkdmbcaaDoorWorks
namespace Go.Proofs.YtgjpjimpkdmbcaaDoor
open Go.RowKit
set_option linter.unusedVariables false

set_option maxHeartbeats 4000000 in
set_option maxRecDepth 100000 in
theorem utfSpelt (v : Value) (l : List Int) (u : Value) (how : List Int) (w : World) (hl : RdI w w.heap.size v l) (hu : RdI w w.heap.size u how) (T : Tab w) :
    Calls Tryd.prog 7 #[v, u] w fun e w' => e = .returned (.bool true) ∧ Below w.heap.size w w' := by
  have HT := Lib.hid T
  have HL := Lib.hid hl
  have CS := spelt v u l how w hl hu
  have hll := lit_len l how
  have hlb := bl_str _ (lit_byte l how)
  have hls := str_size (lit l how)
  have hq := lit_unq l how
  rw [← hls] at hq hll
  have CY := fun wx Tx => says_true (str (lit l how)) (str (textB l)) ((str (lit l how)).size : Int) wx Tx (by omega) _ rfl (by rw [hlb, bl_str _ (textB_byte l)]; exact hq)
  have CT := fun wx (hx : RdI wx wx.heap.size v l) => text v l wx hx
  generalize str (lit l how) = t at *
  generalize str (textB l) = q at *
  have HY := Lib.hid CY
  have HCT := Lib.hid CT
  clear CY CT hq hlb hls hll T hl hu
  go_enter Tryd.func7, Tryd.ntmps7
  go_wp2_with fail
  ((with_reducible refine CS.mono ?_); rintro x w1 ⟨rfl, b1⟩)
  have H1 := Lib.hid b1
  have HT1 := Lib.hid (HT.out.later b1)
  have HL1 := Lib.hid (HL.out.on b1)
  clear b1 CS
  go_wp2_with fail
  ((with_reducible refine (HCT.out w1 HL1.out).mono ?_); rintro x w' ⟨rfl, rfl⟩)
  go_wp2_with fail
  ((with_reducible refine (HY.out _ HT1.out).mono ?_); rintro x w2 ⟨rfl, b2⟩)
  have H2 := Lib.hid (up H1.out b2)
  have HT2 := Lib.hid (HT1.out.later b2)
  clear b2
  go_wp2_with fail
  ((with_reducible refine (works w2 HT2.out).mono ?_); rintro x w3 ⟨rfl, b3⟩)
  have H3 := Lib.hid (up H2.out b3)
  clear b3
  go_wp2
  go_ret
  exact ⟨rfl, H3.out⟩
set_option maxHeartbeats 4000000 in
set_option maxRecDepth 100000 in
theorem utfCuts (v : Value) (l : List Int) (u : Value) (how : List Int) (x : Int) (w : World) (hl : RdI w w.heap.size v l) (hu : RdI w w.heap.size u how)
    (x0 : -9223372036854775808 ≤ x) (x1 : x ≤ 9223372036854775807) (T : Tab w) :
    Calls Tryd.prog 8 #[v, u, .int .i64 x] w fun e w' => e = .returned (.bool true) ∧ Below w.heap.size w w' := by
  have HT := Lib.hid T
  have CS := spelt v u l how w hl hu
  have hll := lit_len l how
  have hlb := bl_str _ (lit_byte l how)
  have hls := str_size (lit l how)
  have hpos : 0 < (lit l how).length := by simp [lit]
  have hq := lit_cut l how
  rw [← hls] at hq hll hpos
  have CB := fun wx => bring x ((str (lit l how)).size : Int) wx x0 x1 (by omega) (by omega)
  have hk0 := Int.emod_nonneg x (b := ((str (lit l how)).size : Int)) (by omega)
  have hk1 := Int.emod_lt_of_pos x (b := ((str (lit l how)).size : Int)) (by omega)
  obtain ⟨k, hk⟩ : ∃ k : Nat, x % ((str (lit l how)).size : Int) = k := ⟨(x % ((str (lit l how)).size : Int)).toNat, by omega⟩
  rw [hk] at CB hk0 hk1
  have hkl : k < (str (lit l how)).size := by omega
  have CF := fun wx Tx => fails_true ((str (lit l how)).extract 0 k) 3 wx Tx (by rw [ByteArray.size_extract]; omega) 3 rfl (by rw [bl_to, hlb]; exact hq k hkl)
  generalize str (lit l how) = t at *
  have HF := Lib.hid CF
  have hkz : k ≤ t.size := by omega
  have hkz2 : (k : Int) ≤ t.size := by omega
  clear CF hq hlb hls hll T hl hu hk hpos
  go_enter Tryd.func8, Tryd.ntmps8
  go_wp2_with fail
  ((with_reducible refine CS.mono ?_); rintro x w1 ⟨rfl, b1⟩)
  have H1 := Lib.hid b1
  have HT1 := Lib.hid (HT.out.later b1)
  clear b1 CS
  go_wp2_with fail
  ((with_reducible refine (CB _).mono ?_); rintro x w' ⟨rfl, rfl⟩)
  go_wp2_with fail
  ((with_reducible refine (HF.out _ HT1.out).mono ?_); rintro x w2 ⟨rfl, b2⟩)
  have H2 := Lib.hid (up H1.out b2)
  have HT2 := Lib.hid (HT1.out.later b2)
  clear b2
  go_wp2_with fail
  ((with_reducible refine (works w2 HT2.out).mono ?_); rintro x w3 ⟨rfl, b3⟩)
  have H3 := Lib.hid (up H2.out b3)
  clear b3
  go_wp2
  go_ret
  exact ⟨rfl, H3.out⟩
end Go.Proofs.YtgjpjimpkdmbcaaDoor
