/- The reference's Dot. -/
import Derived.Test.YthlhfnafgjecaaaRint
import Derived.Test.YthlhfnafgjecaaaPairs
import Derived.Deep.RegionWith
namespace Go.Proofs.Ythlhfnafgjecaaa
open Go.RowKit
set_option linter.unusedVariables false

theorem L1.lie {w ww : World} {z : Int} (h : L1 w z ww) : (ww.cell? ⟨w.heap.size, 0, none⟩ = some (.int .u64 (Wd.dg 0 z)) ∧ ww.cell? ⟨w.heap.size, 1, none⟩ = some (.int .u64 (Wd.dg 1 z)) ∧ ww.cell? ⟨w.heap.size, 2, none⟩ = some (.int .u64 (Wd.dg 2 z)) ∧
    ww.cell? ⟨w.heap.size, 3, none⟩ = some (.int .u64 (Wd.dg 3 z)) ∧ ww.cell? ⟨w.heap.size, 4, none⟩ = some (.int .u64 (Wd.dg 4 z)) ∧ ww.cell? ⟨w.heap.size, 5, none⟩ = some (.int .u64 (Wd.dg 5 z))) ∧
    (ww.frozen? ⟨w.heap.size, 0, none⟩ = false ∧ ww.frozen? ⟨w.heap.size, 1, none⟩ = false ∧ ww.frozen? ⟨w.heap.size, 2, none⟩ = false ∧ ww.frozen? ⟨w.heap.size, 3, none⟩ = false ∧ ww.frozen? ⟨w.heap.size, 4, none⟩ = false ∧ ww.frozen? ⟨w.heap.size, 5, none⟩ = false) :=
  ⟨h.keep.2, frozen_of_row _ _ _ _ _ h.2, frozen_of_row _ _ _ _ _ h.2, frozen_of_row _ _ _ _ _ h.2, frozen_of_row _ _ _ _ _ h.2, frozen_of_row _ _ _ _ _ h.2, frozen_of_row _ _ _ _ _ h.2⟩
theorem set_six (cs : Array Value) (h : cs.size = 6) (a b c d e f : Value) : (((((cs.setIfInBounds 0 a).setIfInBounds 1 b).setIfInBounds 2 c).setIfInBounds 3 d).setIfInBounds 4 e).setIfInBounds 5 f = #[a, b, c, d, e, f] := by
  obtain ⟨l⟩ := cs
  match l, h with
  | [_, _, _, _, _, _], _ => rfl
theorem L1.put {w ww : World} {z : Int} (h : L1 w z ww) (t : Int) :
    L1 w t ((((((ww.setCell ⟨w.heap.size, 0, none⟩ (.int .u64 (Wd.dg 0 t))).setCell ⟨w.heap.size, 1, none⟩ (.int .u64 (Wd.dg 1 t))).setCell ⟨w.heap.size, 2, none⟩ (.int .u64 (Wd.dg 2 t))).setCell ⟨w.heap.size, 3, none⟩ (.int .u64 (Wd.dg 3 t))).setCell ⟨w.heap.size, 4, none⟩ (.int .u64 (Wd.dg 4 t))).setCell ⟨w.heap.size, 5, none⟩ (.int .u64 (Wd.dg 5 t))) := by
  refine ⟨(((((h.1.setCell (Nat.le_refl _) _).setCell (Nat.le_refl _) _).setCell (Nat.le_refl _) _).setCell (Nat.le_refl _) _).setCell (Nat.le_refl _) _).setCell (Nat.le_refl _) _, ?_⟩
  have := (((((h.2.set (k := 0) (.int .u64 (Wd.dg 0 t))).set (k := 1) (.int .u64 (Wd.dg 1 t))).set (k := 2) (.int .u64 (Wd.dg 2 t))).set (k := 3) (.int .u64 (Wd.dg 3 t))).set (k := 4) (.int .u64 (Wd.dg 4 t))).set (k := 5) (.int .u64 (Wd.dg 5 t))
  rw [set_six _ (sr_size z), sr_lit] at this
  exact this
set_option maxHeartbeats 16000000 in
set_option maxRecDepth 100000 in
theorem rdot (v : Value) (l : List (Int × Int)) (w : World) (h : RdP w w.heap.size v l) :
    Calls Try.prog 30 #[v] w fun e w' => e = .returned (.tuple #[.int .i64 (Wd.ck (dot l)), .int .i64 (Wd.ce (dot l))]) ∧ Below w.heap.size w w' := by
  have hlen := h.len
  have D := fun w => rint (dot l) w (dot_sg l h.ok h.len)
  obtain ⟨a, c, rfl, _⟩ := id h
  have HL := Lib.hid h
  clear h
  go_enter Try.func30, Try.ntmps30
  go_wp2
  have V0 : Hid (L1 w (dotK l 0) (w.alloc (.cells #[.int .u64 0, .int .u64 0, .int .u64 0, .int .u64 0, .int .u64 0, .int .u64 0] 43))) := Lib.hid (by rw [dotK_zero, sr_0]; exact L1.start _ _)
  go_loopw [5] (fun i ww => ∃ k : Nat, k ≤ l.length ∧ i = .int .i64 k ∧ Hid (L1 w (dotK l k) ww)) (fun i _ => l.length - (intOf i).toNat)
  case atStart => exact ⟨0, by omega, rfl, V0⟩
  case round =>
    clear V0
    obtain ⟨k, hk, rfl, HV⟩ := hrel
    by_cases hlt : k < l.length
    · obtain ⟨b, off, p, rfl, hp, hok, hc0, hc1⟩ := HL.out.at (below_drewN HV.out.1 1) hlt
      have hlt' : (k : Int) < l.length := by omega
      have HS := Lib.hid (dotK_succ l k p hp)
      have M := fun w => rmul p.1 p.2 w hok.1.1 hok.1.2 hok.2.1 hok.2.2
      have A := fun w => radd (dotK l k) (p.1 * p.2) (dotK l (k + 1)) w HS.out.symm
      clear hok hp
      obtain ⟨s2, hs2⟩ : ∃ q, dotK l (k + 1) = q := ⟨_, rfl⟩
      rw [hs2] at A HS
      have H2 := Lib.hid hs2
      clear hs2 HS
      generalize dotK l k = s at *
      generalize p.1 * p.2 = z at *
      generalize p.1 = p1 at *
      generalize p.2 = p2 at *
      rw [← sr_lit s, ← sr_lit s2] at A
      go_wp2
      have VD := Lib.hid (L1.later HV.out (Below.refl _ _).drew)
      obtain ⟨⟨q0, q1, q2, q3, q4, q5⟩, _⟩ := L1.lie VD.out
      clear HV
      have hc0' : wr.drew.cell? ⟨b, off + k * 2, none⟩ = some (.int .i64 p1) := hc0
      have hc1' : wr.drew.cell? ⟨b, off + k * 2 + 1, none⟩ = some (.int .i64 p2) := hc1
      clear hc0 hc1
      go_region_with (first
        | (go_at_call 26; (with_reducible refine (M _).mono ?_); rintro e w2 ⟨rfl, b2⟩; have V2 := Lib.hid (L1.later VD.out b2); obtain ⟨⟨q6, q7, q8, q9, q10, q11⟩, _⟩ := L1.lie V2.out)
        | (go_at_call 28; (with_reducible refine (A _).mono ?_); rintro e w3 ⟨rfl, b3⟩; have V4 := Lib.hid (L1.later V2.out b3); obtain ⟨⟨q12, q13, q14, q15, q16, q17⟩, f0, f1, f2, f3, f4, f5⟩ := L1.lie V4.out))
      all_goals
        have V5 := Lib.hid (L1.put V4.out s2)
        generalize (((((w3.setCell ⟨w.heap.size, 0, none⟩ (.int .u64 (Wd.dg 0 s2))).setCell ⟨w.heap.size, 1, none⟩ (.int .u64 (Wd.dg 1 s2))).setCell ⟨w.heap.size, 2, none⟩ (.int .u64 (Wd.dg 2 s2))).setCell ⟨w.heap.size, 3, none⟩ (.int .u64 (Wd.dg 3 s2))).setCell ⟨w.heap.size, 4, none⟩ (.int .u64 (Wd.dg 4 s2))).setCell ⟨w.heap.size, 5, none⟩ (.int .u64 (Wd.dg 5 s2)) = w4 at V5 ⊢
        clear V4 V2 VD b2 b3 q0 q1 q2 q3 q4 q5 q6 q7 q8 q9 q10 q11 q12 q13 q14 q15 q16 q17 f0 f1 f2 f3 f4 f5 hc0' hc1' M A
        go_wp2
        go_roundw
        case rel => exact ⟨k + 1, by omega, by go_num, by rw [H2.out]; exact V5⟩
        case measure => simp [intOf]; omega
    · have he : Hid (dotK l k = dot l) := Lib.hid (dotK_all l k (by omega))
      rw [he.out] at HV
      have hlt' : ¬ (k : Int) < l.length := by omega
      clear he HL
      rw [← sr_lit] at D
      obtain ⟨⟨q0, q1, q2, q3, q4, q5⟩, _⟩ := L1.lie HV.out
      go_wp2_with fail
      ((with_reducible refine (D _).mono ?_); rintro e w2 ⟨rfl, b2⟩)
      have HB := Lib.hid (up HV.out.1 b2)
      clear HV b2
      go_wp2
      go_ret2
      exact ⟨rfl, HB.out⟩
end Go.Proofs.Ythlhfnafgjecaaa
