/- Sorted, Same, of the reference. -/
import Derived.Test.YtgcfhjmcbbklmaaDoorRsorted
import Derived.Test.YtgcfhjmcbbklmaaDoorSame
import Derived.Test.YtgcfhjmcbbklmaaDoorRcheck
namespace Go.Proofs.YtgcfhjmcbbklmaaDoor
open Go.RowKit
set_option linter.unusedVariables false
set_option maxRecDepth 100000

set_option maxHeartbeats 4000000 in
theorem rsortedC (v : Value) (l : List Nd) (w : World) (h : RdN w w.heap.size v l) (hok : ∀ x ∈ l, Nok x) (r : List Nd) (hr : SortIs l r) :
    Calls Tryd.prog 29 #[v] w fun e w' => MkPost w r e w' := by
  have HR := Lib.hid h
  have C := Lib.hid (fun (e : Int) (he : chk l = e) => rcheck _ l w h hok e he)
  rcases hr with ⟨F, hM, rfl⟩ | ⟨h0, rfl⟩
  · have h0 := (may_chk hM).1
    have hll := hM.1
    have C0 := Lib.hid (C.out 0 h0)
    have HF : Hid (Tp.flat F = l) := Lib.hid hM.2.1.2.2
    have hlz : l.length = Tp.sz F := by rw [← HF.out]; rfl
    have HAt : Hid (Tp.At l 0 F) := Lib.hid (by rw [← HF.out]; exact Tp.at_flat _)
    have CS := Lib.hid (fun (wb : World) (hb : Below w.heap.size w wb) => sorted_claim v l hll (Tp.sz F + 1) 0 0 (l.length : Nat) F false wb (by omega) rfl (by rw [hlz]; simp) HAt.out (HR.out.later hb))
    obtain ⟨ad, cp, rfl, _⟩ := Gn.Rd.form h
    clear h hok hM h0 C hlz
    go_enter Tryd.func29, Tryd.ntmps29
    go_wp2_with fail
    ((with_reducible refine (C0.out).mono ?_); rintro e w2 ⟨rfl, b2⟩)
    have HB2 := Lib.hid b2
    clear b2
    go_wp2_with fail
    ((with_reducible refine (CS.out _ HB2.out).mono ?_); rintro e w3 ⟨v3, rfl, ho3, b3⟩)
    have HO3 := Lib.hid (Gn.Own.lower ho3 HB2.out.size)
    have HB3 := Lib.hid (up HB2.out b3)
    clear ho3 b3
    go_wp2_with fail
    go_ret
    exact ⟨_, rfl, HO3.out, HB3.out⟩
  · have h0' : ((chk l : Int) != 0) = true := by simpa using h0
    have C0 := Lib.hid (C.out _ rfl)
    obtain ⟨ad, cp, rfl, _⟩ := Gn.Rd.form h
    clear h hok h0 C
    generalize chk l = e at *
    go_enter Tryd.func29, Tryd.ntmps29
    go_wp2_with fail
    ((with_reducible refine (C0.out).mono ?_); rintro e w2 ⟨rfl, b2⟩)
    have HB2 := Lib.hid b2
    clear b2
    go_wp2_with fail
    go_ret
    exact ⟨_, rfl, Gn.Own.nil _ _, HB2.out⟩

theorem sort_nil {l r : List Nd} (h : SortIs l r) : r = [] ↔ chk l ≠ 0 := by
  rcases h with ⟨F, hM, rfl⟩ | ⟨h0, rfl⟩
  · refine ⟨fun e => ?_, fun e => absurd (may_chk hM).1 e⟩
    exfalso
    obtain ⟨_, ⟨⟨k, y, n, s, c, rfl, _⟩, _⟩, _⟩ := hM
    have := congrArg List.length e
    rw [show (Tp.flat (Tp.sT (.node k y n s c .nil))).length = Tp.sz (Tp.sT (.node k y n s c .nil)) from rfl, Tp.sT_sz, Tp.sz_node] at this
    simp at this
  · exact ⟨fun _ => h0, fun _ => rfl⟩
set_option maxHeartbeats 4000000 in
theorem rsame (v1 v2 : Value) (l1 l2 : List Nd) (w : World) (h1 : RdN w w.heap.size v1 l1) (h2 : RdN w w.heap.size v2 l2) (hok1 : ∀ x ∈ l1, Nok x) (hok2 : ∀ x ∈ l2, Nok x) (r1 r2 : List Nd) (hs1 : SortIs l1 r1) (hs2 : SortIs l2 r2) (b : Bool) (hb : b = true ↔ (r1 ≠ [] ∧ r1 = r2)) :
    Calls Tryd.prog 21 #[v1, v2] w fun e w' => e = .returned (.bool b) ∧ Below w.heap.size w w' := by
  have H1 := Lib.hid h1
  have H2 := Lib.hid h2
  have HB := Lib.hid hb
  have HN1 := Lib.hid (sort_nil hs1)
  have HN2 := Lib.hid (sort_nil hs2)
  have hl1 := sort_len hs1
  obtain ⟨e1, he1⟩ : ∃ e, chk l1 = e := ⟨_, rfl⟩
  obtain ⟨e2, he2⟩ : ∃ e, chk l2 = e := ⟨_, rfl⟩
  have C1 := Lib.hid (rcheck _ l1 w h1 hok1 e1 he1)
  have C2 := Lib.hid (fun (wb : World) (hb : Below w.heap.size w wb) => rcheck _ l2 wb (h2.later hb) hok2 e2 he2)
  have S1 := Lib.hid (fun (wb : World) (hb : Below w.heap.size w wb) => rsortedC v1 l1 wb (h1.later hb) hok1 r1 hs1)
  have S2 := Lib.hid (fun (wb : World) (hb : Below w.heap.size w wb) => rsortedC v2 l2 wb (h2.later hb) hok2 r2 hs2)
  rw [he1] at HN1
  rw [he2] at HN2
  clear h1 h2 hok1 hok2 hs1 hs2 hb he1 he2
  by_cases a1 : e1 = 0
  · subst a1
    have HR1 : Hid (r1 ≠ []) := Lib.hid (fun e => (HN1.out.1 e) rfl)
    by_cases a2 : e2 = 0
    · subst a2
      go_enter Tryd.func21, Tryd.ntmps21
      go_wp2_with fail
      ((with_reducible refine (C1.out).mono ?_); rintro e w2 ⟨rfl, b2⟩)
      have HB2 := Lib.hid b2
      clear b2
      go_wp2_with fail
      ((with_reducible refine (C2.out _ HB2.out).mono ?_); rintro e w3 ⟨rfl, b3⟩)
      have HB3 := Lib.hid (up HB2.out b3)
      clear b3
      go_wp2_with fail
      ((with_reducible refine (S1.out _ HB3.out).mono ?_); rintro e w4 ⟨s1, rfl, ho1, b4⟩)
      have HB4 := Lib.hid (up HB3.out b4)
      have HO1 := Lib.hid (Gn.Own.rd ndL ho1)
      clear b4 ho1
      go_wp2_with fail
      ((with_reducible refine (S2.out _ HB4.out).mono ?_); rintro e w5 ⟨s2, rfl, ho2, b5⟩)
      have CE := Lib.hid (rEq s1 s2 r1 r2 w5 (Gn.Rd.later HO1.out b5) (Gn.Own.rd ndL ho2) (by omega) b ⟨fun e => (HB.out.1 e).2, fun e => HB.out.2 ⟨HR1.out, e⟩⟩)
      have HB5 := Lib.hid (up HB4.out b5)
      clear b5 ho2
      go_wp2_with fail
      ((with_reducible refine (CE.out).mono ?_); rintro e w6 ⟨rfl, b6⟩)
      have HB6 := Lib.hid (up HB5.out b6)
      clear b6
      go_wp2_with fail
      go_ret
      exact ⟨rfl, HB6.out⟩
    · obtain rfl : b = false := by
        cases b with
        | false => rfl
        | true => exact absurd ((HB.out.1 rfl).2.trans (HN2.out.2 a2)) HR1.out
      have a2' : ((e2 : Int) == 0) = false := by simpa using a2
      go_enter Tryd.func21, Tryd.ntmps21
      go_wp2_with fail
      ((with_reducible refine (C1.out).mono ?_); rintro e w2 ⟨rfl, b2⟩)
      have HB2 := Lib.hid b2
      clear b2
      go_wp2_with fail
      ((with_reducible refine (C2.out _ HB2.out).mono ?_); rintro e w3 ⟨rfl, b3⟩)
      have HB3 := Lib.hid (up HB2.out b3)
      clear b3 a2
      go_wp2_with fail
      go_ret
      exact ⟨rfl, HB3.out⟩
  · obtain rfl : b = false := by
      cases b with
      | false => rfl
      | true => exact absurd (HN1.out.2 a1) (HB.out.1 rfl).1
    have a1' : ((e1 : Int) == 0) = false := by simpa using a1
    go_enter Tryd.func21, Tryd.ntmps21
    go_wp2_with fail
    ((with_reducible refine (C1.out).mono ?_); rintro e w2 ⟨rfl, b2⟩)
    have HB2 := Lib.hid b2
    clear b2 a1
    go_wp2_with fail
    go_ret
    exact ⟨rfl, HB2.out⟩
end Go.Proofs.YtgcfhjmcbbklmaaDoor
