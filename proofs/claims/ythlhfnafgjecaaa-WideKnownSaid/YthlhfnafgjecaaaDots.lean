/- The walk of WideDots. -/
import Derived.Test.YthlhfnafgjecaaaOwn
import Derived.Test.YthlhfnafgjecaaaRdot
import Derived.Test.YthlhfnafgjecaaaEqs
import Derived.Deep.QuietTactic
import Derived.BigQuiet
namespace Go.Proofs.Ythlhfnafgjecaaa
open Go.RowKit
set_option linter.unusedVariables false

set_option maxHeartbeats 8000000 in
set_option maxRecDepth 100000 in
theorem wideDots (v : Value) (l0 : List (Int × Int)) (w : World) (h : RdP w w.heap.size v l0) :
    Calls Try.prog 6 #[v] w fun e w' => e = .returned (.bool true) ∧ Below w.heap.size w w' := by
  have hlen := h.len
  obtain ⟨a, c, rfl, hlc, hcm, _⟩ := id h
  unfold maxLen at hcm
  obtain ⟨l, hl⟩ : ∃ l, l0.take 60 = l := ⟨_, rfl⟩
  have hlm : l.length ≤ 60 := by rw [← hl, List.length_take]; omega
  have HR : Hid (RdP w w.heap.size (.slice a l.length c) l) := Lib.hid (hl ▸ h.take 60)
  by_cases h60 : (60 : Int) < l0.length
  · have hN : l.length = 60 := by rw [← hl, List.length_take]; omega
    clear h hl
    have HRD : Hid (RdP w w.heap.size (.slice a 60 c) l) := Lib.hid (hN ▸ HR.out)
    have HRE : Hid (RdP (w.alloc (.cells #[] 28)) (w.alloc (.cells #[] 28)).heap.size (.slice a 60 c) l) := Lib.hid (HRD.out.later (up_new _ _))
    have HOM := Lib.hid (OwnP.made w)
    have HBN := Lib.hid (up_new w (.cells #[] 28))
    have hsz : (w.alloc (.cells #[] 28)).heap.size = w.heap.size + 1 := by simp
    go_enter Try.func6, Try.ntmps6
    go_wp2_with (at_builtin
                 refine wpList_appP rfl (.tmp 14) (.tmp 15) rfl w.heap.size (.slice (some ⟨w.heap.size, 0, none⟩) 0 0) [] rfl HOM.out (.slice a 60 c) l rfl HRE.out (by simp; omega) (by omega) ?_
                 intro v1 w1 ho1 hb1)
    rw [List.nil_append] at ho1
    have HO1 := Lib.hid ho1
    have HB1 := Lib.hid (HBN.out.trans hb1)
    have HD1 := Lib.hid (fun w => dot_ v1 l w)
    clear ho1 hb1 HOM HBN hsz HRE
    ((with_reducible refine (HD1.out _ HO1.out.rd).mono ?_); rintro e w2 ⟨rfl, b2⟩)
    have HO2 := Lib.hid (HO1.out.later b2)
    have HB2 := Lib.hid (up HB1.out b2)
    have HR2 := Lib.hid (HRD.out.later HB2.out)
    clear b2 HO1 HB1 HD1
    go_wp2_with fail
    ((with_reducible refine (rdot _ l _ HR2.out).mono ?_); rintro e w3 ⟨rfl, b3⟩)
    have HO3 := Lib.hid (HO2.out.later b3)
    have HB3 := Lib.hid (up HB2.out b3)
    have HR3 := Lib.hid (HR2.out.later b3)
    clear b3 HO2 HB2 HR2 HRD
    obtain ⟨a1, c1, e1, hlc1, _⟩ := HO3.out.rd
    subst e1
    go_wp2_with fail
    go_loopw [8] (fun i ww => ∃ k : Nat, k ≤ l.length ∧ i = .int .i64 k ∧ Hid (Below w3.heap.size w3 ww)) (fun i _ => l.length - (intOf i).toNat)
    case atStart => exact ⟨0, by omega, rfl, Lib.hid (Below.refl _ _)⟩
    case round =>
      obtain ⟨k, hk, rfl, HB⟩ := hrel
      by_cases hlt : k < l.length
      · obtain ⟨b, off, p, rfl, hp, _, q0, q1⟩ := HR3.out.at HB.out hlt
        obtain ⟨b', off', p', rfl, hp', _, q2, q3⟩ := HO3.out.rd.at HB.out hlt
        rw [hp] at hp'
        injection hp' with hp'
        subst hp'
        have hlt' : (k : Int) < 60 := by omega
        have hlt2 : (k : Int) < l.length := by omega
        clear hp
        obtain ⟨p1, p2⟩ := p
        simp only at q0 q1 q2 q3
        have hq : ∀ w, (Op.equalIn 10000 28 (.agg #[.int .i64 p1, .int .i64 p2]) (.agg #[.int .i64 p1, .int .i64 p2])).run Try.prog w = .ok true w := fun w => eq_pair p1 p2 w
        have hq2 : ∀ w, (Op.equalIn Op.maxDepth 28 (.agg #[.int .i64 p1, .int .i64 p2]) (.agg #[.int .i64 p1, .int .i64 p2])).run Try.prog w = .ok true w := fun w => eq_pair p1 p2 w
        have hq3 := fun w => eq_pair p1 p2 w
        go_wp2_with fail
        go_quiet (fail)
        have HB' := Lib.hid (below_drewN HB.out nq)
        generalize wr.drewN nq = w4 at *
        clear q0 q1 q2 q3 HB
        go_wp2_with fail
        go_roundw
        case rel => exact ⟨k + 1, by omega, by go_num, HB'⟩
        case measure => simp [intOf]; omega
      · have hlt' : ¬ (k : Int) < 60 := by omega
        have HB4 := Lib.hid (up HB3.out HB.out)
        clear HB HB3
        go_wp2_with fail
        ((with_reducible refine (works _).mono ?_); rintro e w5 ⟨rfl, b5⟩)
        have HB5 := Lib.hid (up HB4.out b5)
        clear b5
        go_wp2
        go_ret
        exact ⟨rfl, HB5.out⟩
  · have hN : l.length = l0.length := by rw [← hl, List.length_take]; omega
    clear h hl
    have HRD : Hid (RdP w w.heap.size (.slice a l0.length c) l) := Lib.hid (hN ▸ HR.out)
    have HRE : Hid (RdP (w.alloc (.cells #[] 28)) (w.alloc (.cells #[] 28)).heap.size (.slice a l0.length c) l) := Lib.hid (HRD.out.later (up_new _ _))
    have HOM := Lib.hid (OwnP.made w)
    have HBN := Lib.hid (up_new w (.cells #[] 28))
    have hsz : (w.alloc (.cells #[] 28)).heap.size = w.heap.size + 1 := by simp
    go_enter Try.func6, Try.ntmps6
    go_wp2_with (at_builtin
                 refine wpList_appP rfl (.tmp 14) (.tmp 15) rfl w.heap.size (.slice (some ⟨w.heap.size, 0, none⟩) 0 0) [] rfl HOM.out (.slice a l0.length c) l rfl HRE.out (by simp; omega) (by omega) ?_
                 intro v1 w1 ho1 hb1)
    rw [List.nil_append] at ho1
    have HO1 := Lib.hid ho1
    have HB1 := Lib.hid (HBN.out.trans hb1)
    have HD1 := Lib.hid (fun w => dot_ v1 l w)
    clear ho1 hb1 HOM HBN hsz HRE
    ((with_reducible refine (HD1.out _ HO1.out.rd).mono ?_); rintro e w2 ⟨rfl, b2⟩)
    have HO2 := Lib.hid (HO1.out.later b2)
    have HB2 := Lib.hid (up HB1.out b2)
    have HR2 := Lib.hid (HRD.out.later HB2.out)
    clear b2 HO1 HB1 HD1
    go_wp2_with fail
    ((with_reducible refine (rdot _ l _ HR2.out).mono ?_); rintro e w3 ⟨rfl, b3⟩)
    have HO3 := Lib.hid (HO2.out.later b3)
    have HB3 := Lib.hid (up HB2.out b3)
    have HR3 := Lib.hid (HR2.out.later b3)
    clear b3 HO2 HB2 HR2 HRD
    obtain ⟨a1, c1, e1, hlc1, _⟩ := HO3.out.rd
    subst e1
    go_wp2_with fail
    go_loopw [8] (fun i ww => ∃ k : Nat, k ≤ l.length ∧ i = .int .i64 k ∧ Hid (Below w3.heap.size w3 ww)) (fun i _ => l.length - (intOf i).toNat)
    case atStart => exact ⟨0, by omega, rfl, Lib.hid (Below.refl _ _)⟩
    case round =>
      obtain ⟨k, hk, rfl, HB⟩ := hrel
      by_cases hlt : k < l.length
      · obtain ⟨b, off, p, rfl, hp, _, q0, q1⟩ := HR3.out.at HB.out hlt
        obtain ⟨b', off', p', rfl, hp', _, q2, q3⟩ := HO3.out.rd.at HB.out hlt
        rw [hp] at hp'
        injection hp' with hp'
        subst hp'
        have hlt' : (k : Int) < l0.length := by omega
        have hlt2 : (k : Int) < l.length := by omega
        clear hp
        obtain ⟨p1, p2⟩ := p
        simp only at q0 q1 q2 q3
        have hq : ∀ w, (Op.equalIn 10000 28 (.agg #[.int .i64 p1, .int .i64 p2]) (.agg #[.int .i64 p1, .int .i64 p2])).run Try.prog w = .ok true w := fun w => eq_pair p1 p2 w
        have hq2 : ∀ w, (Op.equalIn Op.maxDepth 28 (.agg #[.int .i64 p1, .int .i64 p2]) (.agg #[.int .i64 p1, .int .i64 p2])).run Try.prog w = .ok true w := fun w => eq_pair p1 p2 w
        have hq3 := fun w => eq_pair p1 p2 w
        go_wp2_with fail
        go_quiet (fail)
        have HB' := Lib.hid (below_drewN HB.out nq)
        generalize wr.drewN nq = w4 at *
        clear q0 q1 q2 q3 HB
        go_wp2_with fail
        go_roundw
        case rel => exact ⟨k + 1, by omega, by go_num, HB'⟩
        case measure => simp [intOf]; omega
      · have hlt' : ¬ (k : Int) < l0.length := by omega
        have HB4 := Lib.hid (up HB3.out HB.out)
        clear HB HB3
        go_wp2_with fail
        ((with_reducible refine (works _).mono ?_); rintro e w5 ⟨rfl, b5⟩)
        have HB5 := Lib.hid (up HB4.out b5)
        clear b5
        go_wp2
        go_ret
        exact ⟨rfl, HB5.out⟩
end Go.Proofs.Ythlhfnafgjecaaa
