/- Sorted, Same, of the reference. -/
import Derived.Test.YtgmdjofnkbaflaaGreatDoorRsorted
import Derived.Test.YtgmdjofnkbaflaaGreatDoorSame
import Derived.Test.YtgmdjofnkbaflaaGreatDoorRcheck
namespace Go.Proofs.YtgmdjofnkbaflaaGreatDoor
open Go.RowKit
set_option linter.unusedVariables false
set_option maxRecDepth 100000

set_option maxHeartbeats 4000000 in
theorem rsortedC (v : Value) (l : List Nd) (w : World) (h : RdN w w.heap.size v l) (hok : ∀ x ∈ l, Nok x) (r : List Nd) (hr : SortIs l r) :
    Calls Tryz.prog 110 #[v] w fun e w' => MkPost w r e w' := by
  have HR := Lib.hid h
  have C := Lib.hid (fun (e : Int) (he : chk l = e) => rcheck _ l w h hok e he)
  rcases hr with ⟨F, hM, rfl⟩ | ⟨h0, rfl⟩
  · have h0 := (may_chk hM).1
    have hll := hM.1
    have C0 := Lib.hid (C.out 0 h0)
    have HF : Hid (Tp.flat F = l) := Lib.hid hM.2.1.2.2
    have hlz : l.length = Tp.sz F := by rw [← HF.out]; rfl
    have HAt : Hid (Tp.At l 0 F) := Lib.hid (by rw [← HF.out]; exact Tp.at_flat _)
    have CS := Lib.hid (fun (wb : World) (hb : Below w.heap.size w wb) => sorted_claim v l hll (Tp.sz F + 1) 0 0 (l.length : Nat) F false wb (by omega) rfl (by rw [hlz]; simp) HAt.out (HR.out.later hb))
    obtain ⟨ad, cp, rfl, _⟩ := Gn.Rd.form h
    clear h hok hM h0 C hlz
    go_enter Tryz.func110, Tryz.ntmps110
    go_wp2_with fail
    ((with_reducible refine (C0.out).mono ?_); rintro e w2 ⟨rfl, b2⟩)
    have HB2 := Lib.hid b2
    clear b2
    go_wp2_with fail
    ((with_reducible refine (CS.out _ HB2.out).mono ?_); rintro e w3 ⟨v3, rfl, ho3, b3⟩)
    have HO3 := Lib.hid (Gn.Own.lower ho3 HB2.out.size)
    have HB3 := Lib.hid (up HB2.out b3)
    clear ho3 b3
    go_wp2_with fail
    go_ret
    exact ⟨_, rfl, HO3.out, HB3.out⟩
  · have h0' : ((chk l : Int) != 0) = true := by simpa using h0
    have C0 := Lib.hid (C.out _ rfl)
    obtain ⟨ad, cp, rfl, _⟩ := Gn.Rd.form h
    clear h hok h0 C
    generalize chk l = e at *
    go_enter Tryz.func110, Tryz.ntmps110
    go_wp2_with fail
    ((with_reducible refine (C0.out).mono ?_); rintro e w2 ⟨rfl, b2⟩)
    have HB2 := Lib.hid b2
    clear b2
    go_wp2_with fail
    go_ret
    exact ⟨_, rfl, Gn.Own.nil _ _, HB2.out⟩

theorem sort_nil {l r : List Nd} (h : SortIs l r) : r = [] ↔ chk l ≠ 0 := by
  rcases h with ⟨F, hM, rfl⟩ | ⟨h0, rfl⟩
  · refine ⟨fun e => ?_, fun e => absurd (may_chk hM).1 e⟩
    exfalso
    obtain ⟨_, ⟨⟨k, y, n, s, c, rfl, _⟩, _⟩, _⟩ := hM
    have := congrArg List.length e
    rw [show (Tp.flat (Tp.sT (.node k y n s c .nil))).length = Tp.sz (Tp.sT (.node k y n s c .nil)) from rfl, Tp.sT_sz, Tp.sz_node] at this
    simp at this
  · exact ⟨fun _ => h0, fun _ => rfl⟩
end Go.Proofs.YtgmdjofnkbaflaaGreatDoor
