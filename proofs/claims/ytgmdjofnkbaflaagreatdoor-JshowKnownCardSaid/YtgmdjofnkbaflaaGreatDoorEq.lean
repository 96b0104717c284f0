/- Rows of nodes, and of numbers, that are compared; a copy; tapes of one node. -/
import Derived.Test.YtgmdjofnkbaflaaGreatDoorRcheck
namespace Go.Proofs.YtgmdjofnkbaflaaGreatDoor
open Go.RowKit
set_option linter.unusedVariables false
set_option maxRecDepth 100000

set_option maxHeartbeats 4000000 in
theorem rEq (v1 v2 : Value) (l1 l2 : List Nd) (w : World) (h1 : RdN w w.heap.size v1 l1) (h2 : RdN w w.heap.size v2 l2) (hl : l1.length ≤ 1000000) (b : Bool) (hb : b = true ↔ l1 = l2) :
    Calls Tryz.prog 14 #[v1, v2] w fun e w' => e = .returned (.bool b) ∧ Below w.heap.size w w' := by
  have HR1 := Lib.hid h1
  have HR2 := Lib.hid h2
  have HB := Lib.hid hb
  obtain ⟨a1, c1, rfl, _⟩ := Gn.Rd.form h1
  obtain ⟨a2, c2, rfl, _⟩ := Gn.Rd.form h2
  clear h1 h2 hb
  by_cases hn : l1.length = l2.length
  · have hn' : ((l1.length : Int) != (l2.length : Nat)) = false := by simp; omega
    go_enter Tryz.func14, Tryz.ntmps14
    go_wp2_with fail
    go_loopw [5] (fun i wr => ∃ k : Nat, k ≤ l1.length ∧ i = .int .i64 (k : Nat) ∧ Hid (∀ j, j < k → l1[j]? = l2[j]?) ∧ Hid (Below w.heap.size w wr)) (fun i _ => l1.length - (intOf i).toNat)
    case atStart => exact ⟨0, by omega, by rfl, Lib.hid (fun j hj => by omega), Lib.hid (Below.refl _ _)⟩
    case round =>
      obtain ⟨k, hk, rfl, HE, HU⟩ := hrel
      by_cases hlt : k < l1.length
      · have hlt1 : (k : Int) < l1.length := by omega
        have hlt2 : (k : Int) < l2.length := by omega
        obtain ⟨x, hx⟩ : ∃ x, l1[k]? = some x := ⟨_, List.getElem?_eq_getElem hlt⟩
        obtain ⟨y, hy⟩ : ∃ y, l2[k]? = some y := ⟨_, List.getElem?_eq_getElem (by omega)⟩
        obtain ⟨b1, o1, rfl, p0, p1, p2, p3, p4⟩ := rdN_cells HR1.out HU.out.drew hx
        obtain ⟨b2, o2, rfl, q0, q1, q2, q3, q4⟩ := rdN_cells HR2.out HU.out.drew hy
        have heq := fun w => run_eqn x y w
        unfold ndv at heq
        have HU2 := Lib.hid HU.out.drew
        by_cases hxy : x = y
        · have e1 : eqn x y = true := (eqn_iff x y).2 hxy
          rw [e1] at heq
          have HE2 := Lib.hid (show ∀ j, j < k + 1 → l1[j]? = l2[j]? from fun j hj => by
            rcases Nat.lt_succ_iff_lt_or_eq.1 hj with h | rfl
            · exact HE.out j h
            · rw [hx, hy, hxy])
          clear hx hy hxy e1 hn
          go_wp2_with fail
          go_region
          all_goals
            go_wp2_with fail
            go_roundw
            case rel => exact ⟨k + 1, by omega, by go_num, HE2, HU2⟩
            case measure => simp [intOf]; omega
        · have e1 : eqn x y = false := by
            cases he : eqn x y with
            | false => rfl
            | true => exact absurd ((eqn_iff x y).1 he) hxy
          rw [e1] at heq
          obtain rfl : b = false := false_of HB.out (fun e => hxy (by rw [e, hy] at hx; injection hx with e; exact e.symm))
          clear hx hy hxy e1 hn
          go_wp2_with fail
          go_region
          all_goals
            go_wp2_with fail
            go_ret
            exact ⟨rfl, HU2.out⟩
      · have hlt1 : ¬ (k : Int) < l1.length := by omega
        have hbt : b = true := HB.out.2 (List.ext_getElem? fun j => by
          rcases Nat.lt_or_ge j k with h | h
          · exact HE.out j h
          · rw [List.getElem?_eq_none (by omega), List.getElem?_eq_none (by omega)])
        subst hbt
        clear hn
        go_wp2_with fail
        go_ret
        exact ⟨rfl, HU.out⟩
  · have hn' : ((l1.length : Int) != (l2.length : Nat)) = true := by simp; omega
    obtain rfl : b = false := false_of HB.out (fun e => hn (by rw [e]))
    clear hn
    go_enter Tryz.func14, Tryz.ntmps14
    go_wp2_with fail
    go_ret
    exact ⟨rfl, Below.refl _ _⟩
/-- Numbers in a row. -/
def inc (x : Int) : List Value := [.int .i64 x]
theorem inL : Gn.Lay inc 1 := ⟨fun _ => rfl, fun x v hv => by simp [inc] at hv; subst hv; rfl, by omega⟩
def RdI (w : World) (B : Nat) (v : Value) (l : List Int) : Prop := Gn.Rd inc 1 w B v l
def OwnI (w : World) (base : Nat) (v : Value) (l : List Int) : Prop := Gn.Own inc 1 3 w base v l
theorem rdI_cell {W w : World} {B n c : Nat} {ad : Option Addr} {l : List Int} (h : RdI W B (.slice ad n c) l) (hb : Below B W w) {i : Nat} {x : Int} (hi : l[i]? = some x) :
    ∃ b off, ad = some ⟨b, off, none⟩ ∧ w.cell? ⟨b, off + i, none⟩ = some (.int .i64 x) := by
  obtain ⟨hl, e⟩ := List.getElem?_eq_some_iff.1 hi
  obtain ⟨b, off, rfl, _, hc⟩ := Gn.Rd.at h hb hl
  rw [e] at hc
  refine ⟨b, off, rfl, ?_⟩
  have := hc 0 _ rfl
  simpa using this
end Go.Proofs.YtgmdjofnkbaflaaGreatDoor
