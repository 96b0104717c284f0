/- Same (the program's): two sorted rows are compared. -/
import Derived.Test.YtgmdjofnkbaflaaGreatDoorZs
import Derived.Test.YtgmdjofnkbaflaaGreatDoorEq
namespace Go.Proofs.YtgmdjofnkbaflaaGreatDoor
open Go.RowKit
set_option linter.unusedVariables false
set_option maxRecDepth 100000

set_option maxHeartbeats 4000000 in
theorem sEq (v1 v2 : Value) (l1 l2 : List Nd) (w : World) (h1 : RdN w w.heap.size v1 l1) (h2 : RdN w w.heap.size v2 l2) (hl : l1.length ≤ 1000000) (b : Bool) (hb : b = true ↔ l1 = l2) :
    Calls Tryz.prog 63 #[v1, v2] w fun e w' => e = .returned (.bool b) ∧ Below w.heap.size w w' := by
  have HR1 := Lib.hid h1
  have HR2 := Lib.hid h2
  have HB := Lib.hid hb
  obtain ⟨a1, c1, rfl, _⟩ := Gn.Rd.form h1
  obtain ⟨a2, c2, rfl, _⟩ := Gn.Rd.form h2
  clear h1 h2 hb
  by_cases hn : l1.length = l2.length
  · have hn' : ((l1.length : Int) != (l2.length : Nat)) = false := by simp; omega
    go_enter Tryz.func63, Tryz.ntmps63
    go_wp2_with fail
    go_loopw [13] (fun i wr => ∃ k : Nat, k ≤ l1.length ∧ i = .int .i64 (k : Nat) ∧ Hid (∀ j, j < k → l1[j]? = l2[j]?) ∧ Hid (Below w.heap.size w wr)) (fun i _ => l1.length - (intOf i).toNat)
    case atStart => exact ⟨0, by omega, by rfl, Lib.hid (fun j hj => by omega), Lib.hid (Below.refl _ _)⟩
    case round =>
      obtain ⟨k, hk, rfl, HE, HU⟩ := hrel
      by_cases hlt : k < l1.length
      · have hlt1 : (k : Int) < l1.length := by omega
        have hlt2 : (k : Int) < l2.length := by omega
        obtain ⟨x, hx⟩ : ∃ x, l1[k]? = some x := ⟨_, List.getElem?_eq_getElem hlt⟩
        obtain ⟨y, hy⟩ : ∃ y, l2[k]? = some y := ⟨_, List.getElem?_eq_getElem (by omega)⟩
        obtain ⟨b1, o1, rfl, p0, p1, p2, p3, p4⟩ := rdN_cells HR1.out HU.out.drew hx
        obtain ⟨b2, o2, rfl, q0, q1, q2, q3, q4⟩ := rdN_cells HR2.out HU.out.drew hy
        have heq := fun w => run_eqn x y w
        unfold ndv at heq
        have HU2 := Lib.hid HU.out.drew
        by_cases hxy : x = y
        · have e1 : eqn x y = true := (eqn_iff x y).2 hxy
          rw [e1] at heq
          have HE2 := Lib.hid (show ∀ j, j < k + 1 → l1[j]? = l2[j]? from fun j hj => by
            rcases Nat.lt_succ_iff_lt_or_eq.1 hj with h | rfl
            · exact HE.out j h
            · rw [hx, hy, hxy])
          clear hx hy hxy e1 hn
          go_wp2_with fail
          go_region
          all_goals
            go_wp2_with fail
            go_roundw
            case rel => exact ⟨k + 1, by omega, by go_num, HE2, HU2⟩
            case measure => simp [intOf]; omega
        · have e1 : eqn x y = false := by
            cases he : eqn x y with
            | false => rfl
            | true => exact absurd ((eqn_iff x y).1 he) hxy
          rw [e1] at heq
          obtain rfl : b = false := false_of HB.out (fun e => hxy (by rw [e, hy] at hx; injection hx with e; exact e.symm))
          clear hx hy hxy e1 hn
          go_wp2_with fail
          go_region
          all_goals
            go_wp2_with fail
            go_ret
            exact ⟨rfl, HU2.out⟩
      · have hlt1 : ¬ (k : Int) < l1.length := by omega
        have hlt2 : ¬ (k : Int) < l2.length := by omega
        have hbt : b = true := HB.out.2 (List.ext_getElem? fun j => by
          rcases Nat.lt_or_ge j k with h | h
          · exact HE.out j h
          · rw [List.getElem?_eq_none (by omega), List.getElem?_eq_none (by omega)])
        subst hbt
        clear hn
        go_wp2_with fail
        go_ret
        exact ⟨rfl, HU.out⟩
  · have hn' : ((l1.length : Int) != (l2.length : Nat)) = true := by simp; omega
    obtain rfl : b = false := false_of HB.out (fun e => hn (by rw [e]))
    clear hn
    go_enter Tryz.func63, Tryz.ntmps63
    go_wp2_with fail
    go_ret
    exact ⟨rfl, Below.refl _ _⟩

theorem sort_ex (l : List Nd) : ∃ r, SortIs l r := by
  by_cases h : chk l = 0
  · obtain ⟨F, hF, _⟩ := may_of h
    exact ⟨_, .inl ⟨F, hF, rfl⟩⟩
  · exact ⟨[], .inr ⟨h, rfl⟩⟩
theorem sort_len {l r : List Nd} (h : SortIs l r) : r.length ≤ 4000 := by
  rcases h with ⟨F, hM, rfl⟩ | ⟨_, rfl⟩
  · have e : (Tp.flat (Tp.sT F)).length = Tp.sz (Tp.sT F) := rfl
    have e2 : (Tp.flat F).length = Tp.sz F := rfl
    rw [e, Tp.sT_sz, ← e2, hM.2.1.2.2]
    exact hM.1
  · simp
set_option maxHeartbeats 4000000 in
theorem same (v1 v2 : Value) (l1 l2 : List Nd) (w : World) (h1 : RdN w w.heap.size v1 l1) (h2 : RdN w w.heap.size v2 l2) (hok1 : ∀ x ∈ l1, Nok x) (hok2 : ∀ x ∈ l2, Nok x) (T : Tab w) (r1 r2 : List Nd) (hs1 : SortIs l1 r1) (hs2 : SortIs l2 r2) (b : Bool) (hb : b = true ↔ (r1 ≠ [] ∧ r1 = r2)) :
    Calls Tryz.prog 28 #[v1, v2] w fun e w' => e = .returned (.bool b) ∧ Below w.heap.size w w' := by
  have C1 := Lib.hid (sorted v1 l1 w h1 hok1 T r1 hs1)
  have C2 := Lib.hid (fun (wb : World) (hb : Below w.heap.size w wb) => sorted v2 l2 wb (h2.later hb) hok2 (T.later hb) r2 hs2)
  have hl1 := sort_len hs1
  have HB := Lib.hid hb
  clear h1 h2 hok1 hok2 T hs1 hs2 hb
  go_enter Tryz.func28, Tryz.ntmps28
  go_wp2_with fail
  ((with_reducible refine (C1.out).mono ?_); rintro e w2 ⟨s1, rfl, ho1, b1⟩)
  have HO1 := Lib.hid ho1
  have HB1 := Lib.hid b1
  obtain ⟨p1, c1, rfl, _⟩ := Gn.Rd.form (Gn.Own.rd ndL ho1)
  clear ho1 b1
  by_cases hz : r1.length = 0
  · have hgt : ¬ (0 : Int) < (r1.length : Nat) := by omega
    obtain rfl : b = false := by
      cases b with
      | false => rfl
      | true => exact absurd (List.eq_nil_of_length_eq_zero hz) (HB.out.1 rfl).1
    clear hz
    go_wp2_with fail
    go_ret
    exact ⟨rfl, HB1.out⟩
  · have hgt : (0 : Int) < (r1.length : Nat) := by omega
    have HN : Hid (r1 ≠ []) := Lib.hid (fun e => hz (by rw [e]; rfl))
    clear hz
    go_wp2_with fail
    ((with_reducible refine (C2.out _ HB1.out).mono ?_); rintro e w3 ⟨s2, rfl, ho2, b2⟩)
    have CE := Lib.hid (sEq _ s2 r1 r2 w3 (Gn.Rd.later (Gn.Own.rd ndL HO1.out) b2) (Gn.Own.rd ndL ho2) (by omega) b ⟨fun e => (HB.out.1 e).2, fun e => HB.out.2 ⟨HN.out, e⟩⟩)
    have HB2 := Lib.hid (up HB1.out b2)
    clear ho2 b2
    go_wp2_with fail
    ((with_reducible refine (CE.out).mono ?_); rintro e w4 ⟨rfl, b3⟩)
    have HB3 := Lib.hid (up HB2.out b3)
    clear b3
    go_wp2_with fail
    go_ret
    exact ⟨rfl, HB3.out⟩
end Go.Proofs.YtgmdjofnkbaflaaGreatDoor
