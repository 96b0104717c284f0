/- UtfOrder's walk. -/
import Derived.Test.YtgjpjimpkdmbcaaDoorText
namespace Go.Proofs.YtgjpjimpkdmbcaaDoor
open Go.RowKit
set_option linter.unusedVariables false

/-- The order of bytes, of numbers. -/
def less : List Nat → List Nat → Bool
  | [], [] => false
  | [], _ :: _ => true
  | _ :: _, [] => false
  | a :: s, b :: t => decide (a < b) || (decide (a = b) && less s t)
theorem less_map : ∀ (a b : List UInt8), Op.bytesLess a b = less (a.map UInt8.toNat) (b.map UInt8.toNat)
  | [], [] => by simp [Op.bytesLess, less]
  | [], _ :: _ => by simp [Op.bytesLess, less]
  | _ :: _, [] => by simp [Op.bytesLess, less]
  | x :: s, y :: t => by
    simp only [Op.bytesLess, List.map_cons, less]
    rw [less_map s t]
    have e1 : decide (x < y) = decide (x.toNat < y.toNat) := by simp [UInt8.lt_iff_toNat_lt]
    have e2 : (x == y) = decide (x.toNat = y.toNat) := by rw [Bool.eq_iff_iff]; simp [UInt8.toNat_inj]
    rw [e1, e2]
theorem less_bl (s t : ByteArray) : Op.bytesLess s.toList t.toList = less (bl s) (bl t) := by
  rw [Lib.toList_data, Lib.toList_data, less_map]; rfl
set_option maxHeartbeats 2000000 in
theorem less_enc (a b : Nat) (ha : Utf.isr a) (hb : Utf.isr b) : less (Utf.enc a) (Utf.enc b) = decide (a < b) := by
  unfold Utf.isr at ha hb
  unfold Utf.enc
  by_cases a1 : a < 128
  · by_cases b1 : b < 128
    · rw [Bool.eq_iff_iff]; simp [a1, b1, less] <;> omega
    · by_cases b2 : b < 2048
      · rw [Bool.eq_iff_iff]; simp [a1, b1, b2, less] <;> omega
      · by_cases b3 : b < 65536
        · rw [Bool.eq_iff_iff]; simp [a1, b1, b2, b3, less] <;> omega
        · rw [Bool.eq_iff_iff]; simp [a1, b1, b2, b3, less] <;> omega
  · by_cases a2 : a < 2048
    · by_cases b1 : b < 128
      · rw [Bool.eq_iff_iff]; simp [a1, a2, b1, less] <;> omega
      · by_cases b2 : b < 2048
        · rw [Bool.eq_iff_iff]; simp [a1, a2, b1, b2, less] <;> omega
        · by_cases b3 : b < 65536
          · rw [Bool.eq_iff_iff]; simp [a1, a2, b1, b2, b3, less] <;> omega
          · rw [Bool.eq_iff_iff]; simp [a1, a2, b1, b2, b3, less] <;> omega
    · by_cases a3 : a < 65536
      · by_cases b1 : b < 128
        · rw [Bool.eq_iff_iff]; simp [a1, a2, a3, b1, less] <;> omega
        · by_cases b2 : b < 2048
          · rw [Bool.eq_iff_iff]; simp [a1, a2, a3, b1, b2, less] <;> omega
          · by_cases b3 : b < 65536
            · rw [Bool.eq_iff_iff]; simp [a1, a2, a3, b1, b2, b3, less] <;> omega
            · rw [Bool.eq_iff_iff]; simp [a1, a2, a3, b1, b2, b3, less] <;> omega
      · by_cases b1 : b < 128
        · rw [Bool.eq_iff_iff]; simp [a1, a2, a3, b1, less] <;> omega
        · by_cases b2 : b < 2048
          · rw [Bool.eq_iff_iff]; simp [a1, a2, a3, b1, b2, less] <;> omega
          · by_cases b3 : b < 65536
            · rw [Bool.eq_iff_iff]; simp [a1, a2, a3, b1, b2, b3, less] <;> omega
            · rw [Bool.eq_iff_iff]; simp [a1, a2, a3, b1, b2, b3, less] <;> omega
theorem enc_inj (a b : Nat) (ha : Utf.isr a) (hb : Utf.isr b) : Utf.enc a = Utf.enc b ↔ a = b := by
  refine ⟨fun h => ?_, fun h => by rw [h]⟩
  have h1 := Utf.nr_enc a [] ha
  have h2 := Utf.nr_enc b [] hb
  rw [List.append_nil] at h1 h2
  rw [← h1, ← h2, h]

set_option maxHeartbeats 2000000 in
set_option maxRecDepth 100000 in
theorem utfOrder (x y : Int) (w : World) (x0 : -9223372036854775808 ≤ x) (x1 : x ≤ 9223372036854775807) (y0 : -9223372036854775808 ≤ y) (y1 : y ≤ 9223372036854775807) (T : Tab w) :
    Calls Tryd.prog 10 #[.int .i64 x, .int .i64 y] w fun e w' => e = .returned (.bool true) ∧ Below w.heap.size w w' := by
  have ia := oneN_rune x
  have ib := oneN_rune y
  have CX := one x w x0 x1 _ rfl
  have CY := one y w y0 y1 _ rfl
  have PX := put_yes _ w ia
  have PY := put_yes _ w ib
  have hl : Op.bytesLess (str (Utf.enc (oneN x))).toList (str (Utf.enc (oneN y))).toList = decide (oneN x < oneN y) := by
    rw [less_bl, bl_str _ (Utf.enc_byte _ ia), bl_str _ (Utf.enc_byte _ ib), less_enc _ _ ia ib]
  have he : ((str (Utf.enc (oneN x))).toList == (str (Utf.enc (oneN y))).toList) = decide (oneN x = oneN y) := by
    rw [bl_eq, bl_str _ (Utf.enc_byte _ ia), bl_str _ (Utf.enc_byte _ ib)]
    exact decide_eq_decide.2 (enc_inj _ _ ia ib)
  generalize oneN x = a at *
  generalize oneN y = b at *
  generalize str (Utf.enc a) = s at *
  generalize str (Utf.enc b) = t at *
  have W := works w T
  rcases Nat.lt_trichotomy a b with hab | hab | hab
  · have hl1 : Op.bytesLess s.toList t.toList = true := by rw [hl]; simp; omega
    have he1 : (s.toList == t.toList) = false := by rw [he]; simp; omega
    have d1 : (a : Int) < b := by omega
    have d2 : ((a : Int) == (b : Int)) = false := by rw [beq_eq_false_iff_ne]; omega
    clear hl he ia ib hab T
    go_enter Tryd.func10, Tryd.ntmps10
    go_wp2_with (first
      | (go_at_call 29; ((with_reducible refine CX.mono ?_); rintro e w' ⟨rfl, rfl⟩))
      | (go_at_call 29; ((with_reducible refine CY.mono ?_); rintro e w' ⟨rfl, rfl⟩))
      | (go_at_call 15; ((with_reducible refine PX.mono ?_); rintro e w' ⟨rfl, rfl⟩))
      | (go_at_call 15; ((with_reducible refine PY.mono ?_); rintro e w' ⟨rfl, rfl⟩))
      | (go_at_call 19; ((with_reducible refine W.mono ?_); rintro e w2 ⟨rfl, hb⟩)))
    go_ret
    exact ⟨rfl, hb⟩
  · have hl1 : Op.bytesLess s.toList t.toList = false := by rw [hl]; simp; omega
    have he1 : (s.toList == t.toList) = true := by rw [he]; simp; omega
    have d1 : ¬ ((a : Int) < b) := by omega
    have d0 : decide (a < b) = false := by simp; omega
    have d2 : ((a : Int) == (b : Int)) = true := by simp; omega
    clear hl he ia ib hab T
    go_enter Tryd.func10, Tryd.ntmps10
    go_wp2_with (first
      | (go_at_call 29; ((with_reducible refine CX.mono ?_); rintro e w' ⟨rfl, rfl⟩))
      | (go_at_call 29; ((with_reducible refine CY.mono ?_); rintro e w' ⟨rfl, rfl⟩))
      | (go_at_call 15; ((with_reducible refine PX.mono ?_); rintro e w' ⟨rfl, rfl⟩))
      | (go_at_call 15; ((with_reducible refine PY.mono ?_); rintro e w' ⟨rfl, rfl⟩))
      | (go_at_call 19; ((with_reducible refine W.mono ?_); rintro e w2 ⟨rfl, hb⟩)))
    go_ret
    exact ⟨rfl, hb⟩
  · have hl1 : Op.bytesLess s.toList t.toList = false := by rw [hl]; simp; omega
    have he1 : (s.toList == t.toList) = false := by rw [he]; simp; omega
    have d1 : ¬ ((a : Int) < b) := by omega
    have d0 : decide (a < b) = false := by simp; omega
    have d2 : ((a : Int) == (b : Int)) = false := by rw [beq_eq_false_iff_ne]; omega
    clear hl he ia ib hab T
    go_enter Tryd.func10, Tryd.ntmps10
    go_wp2_with (first
      | (go_at_call 29; ((with_reducible refine CX.mono ?_); rintro e w' ⟨rfl, rfl⟩))
      | (go_at_call 29; ((with_reducible refine CY.mono ?_); rintro e w' ⟨rfl, rfl⟩))
      | (go_at_call 15; ((with_reducible refine PX.mono ?_); rintro e w' ⟨rfl, rfl⟩))
      | (go_at_call 15; ((with_reducible refine PY.mono ?_); rintro e w' ⟨rfl, rfl⟩))
      | (go_at_call 19; ((with_reducible refine W.mono ?_); rintro e w2 ⟨rfl, hb⟩)))
    go_ret
    exact ⟨rfl, hb⟩
end Go.Proofs.YtgjpjimpkdmbcaaDoor
