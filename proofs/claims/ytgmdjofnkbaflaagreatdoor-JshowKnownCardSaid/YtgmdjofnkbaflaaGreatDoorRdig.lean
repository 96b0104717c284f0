/- The reference: a number's digits. -/
import Derived.Test.YtgmdjofnkbaflaaGreatDoorNumW8
namespace Go.Proofs.YtgmdjofnkbaflaaGreatDoor
open Go.RowKit
set_option linter.unusedVariables false
set_option maxRecDepth 100000

/-- The digits that are there already, and those to come. -/
structure DgI (n k : Int) (s : ByteArray) : Prop where
  fit : -9223372036854775808 ≤ k ∧ k ≤ 9223372036854775807
  done : k = 0 → n ≠ 0 → bl s = Jr.dcs n.natAbs
  none : n = 0 → k = 0
  more : k ≠ 0 → Jr.dcs n.natAbs = Jr.dcs k.natAbs ++ bl s
  few : n ≠ 0 → s.size ≤ 20
theorem di_start {n : Int} (hn : -9223372036854775808 ≤ n ∧ n ≤ 9223372036854775807) : DgI n n ⟨#[]⟩ :=
  ⟨hn, fun h k => absurd h k, id, fun _ => by rw [show bl ⟨#[]⟩ = [] from rfl, List.append_nil], fun _ => by decide⟩
theorem di_step {n k : Int} {s : ByteArray} (h : DgI n k s) (hn : -9223372036854775808 ≤ n ∧ n ≤ 9223372036854775807) (hk : k ≠ 0) {r : Nat} (hr : k.natAbs % 10 = r) : DgI n (k.tdiv 10) (str [48 + r] ++ s) := by
  have hd : (k.tdiv 10).natAbs = k.natAbs / 10 := by rw [Int.natAbs_tdiv]; rfl
  have hn0 : n ≠ 0 := fun e => hk (h.none e)
  have hm := h.more hk
  have hb : bl (str [48 + r] ++ s) = [48 + r] ++ bl s := by rw [bl_append, bl_str _ (by intro x hx; simp at hx; omega)]
  have hf := Jr.dcs_fit n.natAbs (by omega)
  have key : Jr.dcs n.natAbs = (if k.natAbs < 10 then [] else Jr.dcs (k.natAbs / 10)) ++ bl (str [48 + r] ++ s) := by
    rw [hb, hm]
    split
    · rw [Jr.dcs_small (by omega), show k.natAbs = r by omega]; rfl
    · rw [Jr.dcs_big (by omega), hr]; simp
  refine ⟨?_, fun h0 _ => ?_, fun e => absurd e hn0, fun h0 => ?_, fun _ => ?_⟩
  · have := h.fit; omega
  · rw [key, if_pos (by omega)]; rfl
  · rw [key, if_neg (by omega), hd]
  · have h1 := congrArg List.length key
    rw [List.length_append, bl_length] at h1
    omega

set_option maxHeartbeats 4000000 in
theorem rdigits (n : Int) (w : World) (hn : -9223372036854775808 ≤ n ∧ n ≤ 9223372036854775807) :
    Calls Tryz.prog 145 #[.int .i64 n] w fun e w' => e = .returned (.string (str (Jr.dnum n))) ∧ w = w' := by
  have HN := Lib.hid hn
  clear hn
  go_enter Tryz.func145, Tryz.ntmps145
  go_wp2_with fail
  go_loopw [3, 4] (fun sv kv wr => ∃ (k : Int) (s : ByteArray), sv = .string s ∧ kv = .int .i64 k ∧ w = wr ∧ Hid (DgI n k s)) (fun _ kv _ => (intOf kv).natAbs)
  case atStart => exact ⟨n, _, by rfl, by rfl, rfl, Lib.hid (di_start HN.out)⟩
  case round =>
    obtain ⟨k, s, rfl, rfl, rfl, HD⟩ := hrel
    by_cases hk : k = 0
    · subst hk
      by_cases hz : n = 0
      · subst hz
        have HZ : Hid (str [48] = str (Jr.dnum 0)) := Lib.hid (by rw [show Jr.dnum 0 = [48] from Jr.dnum_dig 0 (by omega)])
        go_wp2_with fail
        go_ret
        exact ⟨by rw [← HZ.out]; rfl, rfl⟩
      · have hb := HD.out.done rfl hz
        have hf := HD.out.few hz
        by_cases hneg : n < 0
        · have HE : Hid (⟨#[45]⟩ ++ s = str (Jr.dnum n)) := Lib.hid (by
            apply bl_inj
            rw [bl_append, hb, bl_str _ (Jr.dnum_num HN.out).byte]
            unfold Jr.dnum Jr.sgn
            simp [hneg]
            rfl)
          have hno : ¬ 9223372036854775807 < 1 + s.size := by omega
          clear hb
          go_wp2_with fail
          go_ret
          exact ⟨by rw [← HE.out]; rfl, rfl⟩
        · have HE : Hid (s = str (Jr.dnum n)) := Lib.hid (by
            apply bl_inj
            rw [hb, bl_str _ (Jr.dnum_num HN.out).byte]
            unfold Jr.dnum Jr.sgn
            simp [hneg])
          clear hb
          go_wp2_with fail
          go_ret
          exact ⟨by rw [← HE.out]; rfl, rfl⟩
    · obtain ⟨r, hr⟩ : ∃ r, k.natAbs % 10 = r := ⟨_, rfl⟩
      have hr9 : r < 10 := by omega
      have HD2 := Lib.hid (di_step HD.out HN.out hk hr)
      have hf := HD.out.few (fun e => hk (HD.out.none e))
      have hfit := HD.out.fit
      have hcut := fun w => ten_run r hr9 w
      unfold ten at hcut
      have z2 : (str [48 + r]).size = 1 := str_size _
      have hsum : ¬ 9223372036854775807 < (str [48 + r]).size + s.size := by omega
      have htm : k.tmod 10 = if k < 0 then -(r : Int) else (r : Int) := by
        have h1 := Int.tmod_eq_emod (a := k) (b := 10)
        split <;> split at h1 <;> omega
      have hta : (k.tdiv 10).natAbs = k.natAbs / 10 := by rw [Int.natAbs_tdiv]; rfl
      have hmeas : (k.tdiv 10).natAbs < k.natAbs := by omega
      have HM := Lib.hid hmeas
      clear HD hr hf z2 hmeas hta
      generalize str [48 + r] = z at *
      by_cases hB : k < 0 ∧ 0 < r
      · have hB1 := hB.1
        rw [if_pos hB1] at htm
        have hneg : -(r : Int) < 0 := by omega
        have hw : IntKind.i64.wrap (- -(r : Int)) = (r : Int) := by rw [Int.neg_neg]; exact IntWalk.i64_in _ ⟨by omega, by omega⟩
        have hw2 : IntKind.i64.wrap (r : Int) = (r : Int) := IntWalk.i64_in _ ⟨by omega, by omega⟩
        go_wp2_with fail
        go_roundw
        case rel => exact ⟨_, _, by rfl, by rfl, by first | rfl | trivial, HD2⟩
        case measure => first | exact HM.out | (simp only [intOf]; exact HM.out)
      · have htm2 : k.tmod 10 = (r : Nat) := by
          rw [htm]; split
          · have : r = 0 := by omega
            subst this; rfl
          · rfl
        have hneg : ¬ (r : Int) < 0 := by omega
        have hw2 : IntKind.i64.wrap (r : Int) = (r : Int) := IntWalk.i64_in _ ⟨by omega, by omega⟩
        clear htm hB
        go_wp2_with fail
        go_roundw
        case rel => exact ⟨_, _, by rfl, by rfl, by first | rfl | trivial, HD2⟩
        case measure => first | exact HM.out | (simp only [intOf]; exact HM.out)
end Go.Proofs.YtgmdjofnkbaflaaGreatDoor
