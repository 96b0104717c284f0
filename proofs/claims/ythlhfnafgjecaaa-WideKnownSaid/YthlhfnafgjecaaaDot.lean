/- Dot of the program. -/
import Derived.Test.YthlhfnafgjecaaaPairs
import Derived.Deep.RegionWith
namespace Go.Proofs.Ythlhfnafgjecaaa
open Go.RowKit
set_option linter.unusedVariables false

set_option maxHeartbeats 4000000 in
set_option maxRecDepth 100000 in
theorem dot_ (v : Value) (l : List (Int × Int)) (w : World) (h : RdP w w.heap.size v l) :
    Calls Try.prog 10 #[v] w fun e w' => e = .returned (.tuple #[.int .i64 (Wd.ck (dot l)), .int .i64 (Wd.ce (dot l))]) ∧ Below w.heap.size w w' := by
  have hlen := h.len
  have D := fun w => int_ (dot l) w (dot_sg l h.ok h.len)
  obtain ⟨a, c, rfl, _⟩ := id h
  have HL := Lib.hid h
  clear h
  go_enter Try.func10, Try.ntmps10
  go_wp2
  have V0 : Hid (V3 w w.heap.size (.int .u64 (Wd.lo (dotK l 0))) (.int .u64 (Wd.mi (dotK l 0))) (.int .u64 (Wd.hi (dotK l 0))) (w.alloc (.cells #[.int .u64 0, .int .u64 0, .int .u64 0] 25))) := Lib.hid (by rw [dotK_zero]; exact V3.new _ _ _ _)
  go_loopw [9] (fun i ww => ∃ k : Nat, k ≤ l.length ∧ i = .int .i64 k ∧ Hid (V3 w w.heap.size (.int .u64 (Wd.lo (dotK l k))) (.int .u64 (Wd.mi (dotK l k))) (.int .u64 (Wd.hi (dotK l k))) ww)) (fun i _ => l.length - (intOf i).toNat)
  case atStart => exact ⟨0, by omega, rfl, V0⟩
  case round =>
    clear V0
    obtain ⟨k, hk, rfl, HV⟩ := hrel
    by_cases hlt : k < l.length
    · obtain ⟨b, off, p, rfl, hp, hok, hc0, hc1⟩ := HL.out.at HV.out.1 hlt
      have hlt' : (k : Int) < l.length := by omega
      have HS := Lib.hid (dotK_succ l k p hp)
      have M := fun w => mul p.1 p.2 w hok.1.1 hok.1.2 hok.2.1 hok.2.2
      have A := fun w => add_is (dotK l k) (p.1 * p.2) (dotK l (k + 1)) w HS.out.symm
      clear hok hp
      unfold wv Go.Proofs.Ythlhfnafgjecaaa.wr at A
      obtain ⟨s2, hs2⟩ : ∃ q, dotK l (k + 1) = q := ⟨_, rfl⟩
      rw [hs2] at A HS
      have H2 := Lib.hid hs2
      clear hs2 HS
      generalize dotK l k = s at *
      generalize p.1 * p.2 = z at *
      generalize p.1 = p1 at *
      generalize p.2 = p2 at *
      go_wp2
      have V1 := V3.later HV.out (up_new wr (.cells #[.int .i64 p1, .int .i64 p2] 28))
      have r0 : (wr.alloc (.cells #[.int .i64 p1, .int .i64 p2] 28)).drew.cell? ⟨wr.heap.size, 0, none⟩ = some (.int .i64 p1) := cell_of_row _ _ _ _ _ _ (Go.heap_alloc_last wr _)
      have r1 : (wr.alloc (.cells #[.int .i64 p1, .int .i64 p2] 28)).drew.cell? ⟨wr.heap.size, 1, none⟩ = some (.int .i64 p2) := cell_of_row _ _ _ _ _ _ (Go.heap_alloc_last wr _)
      generalize wr.alloc (.cells #[.int .i64 p1, .int .i64 p2] 28) = W1 at *
      have VD := Lib.hid (V3.later V1 (Below.refl _ _).drew)
      obtain ⟨⟨q0, q1, q2⟩, f0, f1, f2⟩ := V3.lie VD.out
      clear V1 hc0 hc1 HV
      go_region_with (first
        | (go_at_call 25; refine (M _).mono ?_; rintro e w2 ⟨rfl, b2⟩; have V2 := Lib.hid (V3.later VD.out b2); obtain ⟨⟨q3, q4, q5⟩, f3, f4, f5⟩ := V3.lie V2.out)
        | (go_at_call 27; refine (A _).mono ?_; rintro e w3 ⟨rfl, b3⟩; have V4 := Lib.hid (V3.later V2.out b3); obtain ⟨⟨q6, q7, q8⟩, f6, f7, f8⟩ := V3.lie V4.out))
      all_goals
        have V5 := Lib.hid (V3.put V4.out (Nat.le_refl _) (.int .u64 (Wd.lo s2)) (.int .u64 (Wd.mi s2)) (.int .u64 (Wd.hi s2)))
        generalize ((w3.setCell ⟨w.heap.size, 0, none⟩ (.int .u64 (Wd.lo s2))).setCell ⟨w.heap.size, 1, none⟩ (.int .u64 (Wd.mi s2))).setCell ⟨w.heap.size, 2, none⟩ (.int .u64 (Wd.hi s2)) = w4 at V5 ⊢
        clear V4 V2 VD b2 b3 q0 q1 q2 q3 q4 q5 q6 q7 q8 f0 f1 f2 f3 f4 f5 f6 f7 f8 r0 r1
        go_wp2
        go_roundw
        case rel => exact ⟨k + 1, by omega, by go_num, by rw [H2.out]; exact V5⟩
        case measure => simp [intOf]; omega
    · have he : Hid (dotK l k = dot l) := Lib.hid (dotK_all l k (by omega))
      rw [he.out] at HV
      have hlt' : ¬ (k : Int) < l.length := by omega
      clear he HL
      unfold wv Go.Proofs.Ythlhfnafgjecaaa.wr at D
      obtain ⟨⟨q0, q1, q2⟩, _⟩ := V3.lie HV.out
      go_wp2_with fail
      ((with_reducible refine (D _).mono ?_); rintro e w2 ⟨rfl, b2⟩)
      have HB := Lib.hid (up HV.out.1 b2)
      clear HV b2
      go_wp2
      go_ret2
      exact ⟨rfl, HB.out⟩
end Go.Proofs.Ythlhfnafgjecaaa
