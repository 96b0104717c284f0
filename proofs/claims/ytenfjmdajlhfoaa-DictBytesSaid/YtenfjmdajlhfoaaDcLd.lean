/- The walk of DictBack. -/
import Derived.Test.YtenfjmdajlhfoaaDcLc
namespace Go.Proofs.Ytenfjmdajlhfoaa
open Go.RowKit
set_option linter.unusedVariables false
set_option maxRecDepth 100000
namespace Dc
section
variable {α : Type} [DecidableEq α]
theorem spl_append (d : List α) (N : List Nat) (a b : List α) : spl d N (a ++ b) = spl (spl d N a).1 (spl d N a).2 b := by
  induction a generalizing d N with
  | nil => rfl
  | cons x a ih => rw [List.cons_append, spl_cons, spl_cons]; exact ih _ _
/-- The dictionary of the first texts. -/
def dk (l : List α) (i : Nat) : List α := (spl ([] : List α) [] (l.take i)).1
theorem dk_zero (l : List α) : dk l 0 = [] := by unfold dk; rw [List.take_zero]; rfl
theorem dk_all (l : List α) : dk l l.length = (spl ([] : List α) [] l).1 := by unfold dk; rw [List.take_length]
theorem dk_succ {l : List α} {i : Nat} {s : α} (h : l[i]? = some s) : dk l (i + 1) = put (dk l i) s := by
  unfold dk
  have e : l.take (i + 1) = l.take i ++ [s] := by rw [List.take_add_one, h]; rfl
  rw [e, spl_snoc]
theorem dk_ext (l : List α) (i : Nat) : ∃ r, (spl ([] : List α) [] l).1 = dk l i ++ r := by
  have e := spl_append ([] : List α) [] (l.take i) (l.drop i)
  rw [List.take_append_drop] at e
  rw [e, spl_app]
  exact spl_ext _ _
theorem dk_mem (l : List α) (i : Nat) (s : α) : s ∈ dk l i ↔ s ∈ l.take i := by
  constructor
  · intro h
    rcases spl_mem [] (l.take i) s h with h | h
    · cases h
    · exact h
  · intro h
    obtain ⟨j, hj, rfl⟩ := List.getElem_of_mem h
    exact List.mem_of_getElem? (spl_get [] (l.take i) j _ (List.getElem?_eq_getElem hj)).2
/-- A text that is new has the number of how many there were. -/
theorem dk_new {l : List α} {i : Nat} {s : α} (h : l[i]? = some s) (hn : s ∉ l.take i) : idx (spl ([] : List α) [] l).1 s = (dk l i).length ∧ (dk l (i + 1)).length = (dk l i).length + 1 := by
  have h1 : ¬ idx (dk l i) s < (dk l i).length := fun e => hn ((dk_mem l i s).1 ((idx_mem _ _).1 e))
  have h2 := dk_succ h
  rw [put_new _ _ h1] at h2
  obtain ⟨r, hr⟩ := dk_ext l (i + 1)
  have h3 : idx (dk l i ++ [s]) s = (dk l i).length := by rw [idx_new _ _ _ h1]; simp [idx]
  refine ⟨?_, by rw [h2]; simp⟩
  rw [hr, h2, idx_app _ _ _ (by rw [h3]; simp), h3]
theorem dk_old {l : List α} {i : Nat} {s : α} (h : l[i]? = some s) (hn : s ∈ l.take i) : (dk l (i + 1)).length = (dk l i).length := by
  rw [dk_succ h, put_old _ _ ((idx_mem _ _).2 ((dk_mem l i s).2 hn))]
theorem idx_apart {D : List α} {x y : α} (hx : D[idx D x]? = some x) (hy : D[idx D y]? = some y) (h : x ≠ y) : idx D x ≠ idx D y := by
  intro e
  rw [e, hy] at hx
  injection hx with hx
  exact h hx.symm
end
end Dc
set_option maxHeartbeats 8000000 in
theorem dictBack (v : Value) (d : List ByteArray) (w : World) (hd : TextsIn w v d) :
    Calls Try.prog 6 #[v] w fun e w' => e = .returned (.bool true) ∧ Below w.heap.size w w' := by
  obtain ⟨L, hL⟩ : ∃ L, cutL d = L := ⟨_, rfl⟩
  have HC := Lib.hid (lCut v d w hd L hL)
  have hLl : L.length ≤ 60 := by rw [← hL]; exact cutL_len d
  obtain ⟨⟨D, M0⟩, hDM⟩ : ∃ x, Dc.spl [] [] L = x := ⟨_, rfl⟩
  have hls := Dc.spl_len [] L
  have hjs := Dc.joi_spl L
  have hDe := Dc.dk_all L
  have HG := Lib.hid (Dc.spl_get [] L)
  have HNW := Lib.hid (fun i s h h2 => Dc.dk_new (l := L) (i := i) (s := s) h h2)
  rw [hDM] at hls hjs hDe HG HNW
  have hon : Dc.Once D := by have := Dc.Once.nil.spl L; rw [hDM] at this; exact this
  have HJI : Hid (JnIs D (ofN M0) (some L)) := Lib.hid (fun T => ⟨fun e => by injection e with e; subst e; exact ⟨hon, hjs⟩, fun h => by rw [← h.2]; exact hjs.symm⟩)
  have hDl : D.length ≤ 60 := by simp at hls; omega
  have hMl : M0.length = L.length := hls.1
  have HDE := Lib.hid hDe
  have HDM := Lib.hid hDM
  have HMB : Hid (∀ x ∈ ofN M0, -9223372036854775808 ≤ x ∧ x ≤ 9223372036854775807) := Lib.hid (by
    intro x hx
    obtain ⟨n, hn, rfl⟩ := List.mem_map.1 hx
    obtain ⟨i, hi, rfl⟩ := List.getElem_of_mem hn
    have h1 := (HG.out i _ (List.getElem?_eq_getElem (by omega))).1
    rw [List.getElem?_eq_getElem hi] at h1
    injection h1 with h1
    have := Dc.idx_le D (L[i]'(by omega))
    simp only at h1
    omega)
  clear hd hL hDM hls hjs hDe hon
  go_enter Try.func6, Try.ntmps6
  go_wp2_with fail
  refine HC.out.mono ?_
  rintro e w1 ⟨r1, rfl, o1, b1⟩
  have HS := Lib.hid (split r1 L w1 (RdT.of o1) (by omega) _ HDM.out)
  obtain ⟨a1, c1, rfl, _⟩ := own_form o1
  have O1 := Lib.hid o1
  have B1 := Lib.hid b1
  clear o1 b1 HC HDM
  go_wp2_with fail
  refine HS.out.mono ?_
  rintro e w2 ⟨dv, nv, rfl, od, on, b2⟩
  have HJ := Lib.hid (join dv nv D (ofN M0) w2 (RdT.of od) (RdI.of on) HMB.out (by omega) (by rw [ofN_len]; omega) _ HJI.out)
  unfold JnPost at HJ
  obtain ⟨a2, c2, rfl, _⟩ := own_form od
  obtain ⟨a3, c3, hv3, _⟩ := own_form on
  rw [ofN_len, hMl] at hv3
  subst hv3
  have ON := Lib.hid on
  have B2 := Lib.hid b2
  have O2 := Lib.hid (O1.out.later b2)
  clear od on b2 HS O1 HJI
  go_wp2_with fail
  refine HJ.out.mono ?_
  rintro e w3 ⟨v3, rfl, o3, b3⟩
  have HE := Lib.hid (eqTexts v3 _ L L w3 (RdT.of o3) (RdT.later (RdT.of O2.out) b3) (by omega) true (by simp))
  have B3 := Lib.hid (up B2.out b3)
  have O3 := Lib.hid (O2.out.later b3)
  have ON3 := Lib.hid (ON.out.later b3)
  clear o3 b3 HJ B2 O2 ON
  go_wp2_with fail
  refine HE.out.mono ?_
  rintro e w4 ⟨rfl, b4⟩
  have B4 := Lib.hid (up B1.out (up B3.out b4))
  have HR := Lib.hid (RdT.of (O3.out.later b4))
  have HRI := Lib.hid (RdI.of (ON3.out.later b4))
  clear b4 HE B3 O3 ON3 B1
  go_wp2_with fail
  go_loopw [8, 9] (fun uv i wr => ∃ (k : Nat), k ≤ L.length ∧ i = .int .i64 (k : Nat) ∧ uv = .int .i64 ((Dc.dk L k).length : Nat) ∧ Hid ((Dc.dk L k).length ≤ k) ∧ Hid (Below w4.heap.size w4 wr)) (fun _ i _ => L.length - (intOf i).toNat)
  case atStart => exact ⟨0, by omega, rfl, by rw [Dc.dk_zero]; rfl, Lib.hid (by rw [Dc.dk_zero]; simp), Lib.hid (Below.refl _ _)⟩
  case round =>
    obtain ⟨k, hk, rfl, rfl, HKL, HB⟩ := hrel
    by_cases hlt : k < L.length
    · have hlt1 : (k : Int) < L.length := by omega
      obtain ⟨s, hs⟩ : ∃ s, L[k]? = some s := ⟨_, List.getElem?_eq_getElem hlt⟩
      obtain ⟨g1, g2⟩ := HG.out k s hs
      have g1 : M0[k]? = some (Dc.idx D s) := g1
      have g2 : D[Dc.idx D s]? = some s := g2
      have HSK := Lib.hid hs
      have HG2 := Lib.hid g2
      have hni : (ofN M0)[k]? = some ((Dc.idx D s : Nat) : Int) := by unfold ofN; rw [List.getElem?_map, g1]; rfl
      have HNI := Lib.hid hni
      have hil := Dc.idx_le D s
      clear g1 g2 hs
      go_wp2_with fail
      rename World => W0
      go_loopw [10, 11] (fun fv j wr => ∃ (q : Nat) (f : Bool), q ≤ k ∧ j = .int .i64 (q : Nat) ∧ fv = .bool f ∧ Hid (f = true ↔ s ∉ L.take q) ∧ Hid (Below w4.heap.size w4 wr)) (fun _ j _ => k - (intOf j).toNat)
      case atStart => exact ⟨0, true, by omega, rfl, rfl, Lib.hid (by simp), HB⟩
      case round =>
        clear HB
        obtain ⟨q, f, hq, rfl, rfl, HF, HB⟩ := hrel
        by_cases hqk : q < k
        · have hqk1 : (q : Int) < (k : Int) := by omega
          have hqn : (q : Int) < L.length := by omega
          obtain ⟨x, hx⟩ : ∃ x, L[q]? = some x := ⟨_, List.getElem?_eq_getElem (by omega)⟩
          obtain ⟨g1, g2⟩ := HG.out q x hx
          have g1 : M0[q]? = some (Dc.idx D x) := g1
          have g2 : D[Dc.idx D x]? = some x := g2
          have hnx : (ofN M0)[q]? = some ((Dc.idx D x : Nat) : Int) := by unfold ofN; rw [List.getElem?_map, g1]; rfl
          obtain ⟨ba, off, rfl, p0⟩ := rdT_cell HR.out HB.out hx
          obtain ⟨ba', off', e', p1⟩ := rdT_cell HR.out HB.out HSK.out
          injection e' with e'
          injection e' with e1 e2
          subst e1 e2
          obtain ⟨bn, on, rfl, p2⟩ := rdI_cell HRI.out HB.out hnx
          obtain ⟨bn', on', e', p3⟩ := rdI_cell HRI.out HB.out HNI.out
          injection e' with e'
          injection e' with e1 e2
          subst e1 e2
          have hfm : s ∉ L.take (q + 1) ↔ s ∉ L.take q ∧ x ≠ s := by
            rw [List.take_add_one, hx]
            simp only [Option.toList_some, List.mem_append, List.mem_singleton, not_or]
            exact ⟨fun ⟨a, b⟩ => ⟨a, fun e => b e.symm⟩, fun ⟨a, b⟩ => ⟨a, fun e => b e.symm⟩⟩
          have hapart := Dc.idx_apart (D := D) g2 HG2.out
          have HB2 := Lib.hid HB.out.drew.drew
          clear g1 g2 hnx
          by_cases hxs : x = s
          · subst hxs
            have e1 : (x.toList == x.toList) = true := by simp
            have HFM : Hid (false = true ↔ x ∉ L.take (q + 1)) := Lib.hid ⟨fun e => (by cases e), fun e => absurd rfl (hfm.1 e).2⟩
            clear hfm hapart hx HF
            go_wp2_with fail
            go_region
            all_goals
              go_wp2_with fail
              cases f with
              | true =>
                go_region
                all_goals
                  go_wp2_with fail
                  go_roundw
                  case rel => exact ⟨q + 1, false, by omega, by go_num, rfl, HFM, HB2⟩
                  case measure => simp [intOf]; omega
              | false =>
                go_region
                all_goals
                  go_wp2_with fail
                  go_roundw
                  case rel => exact ⟨q + 1, false, by omega, by go_num, rfl, HFM, HB2⟩
                  case measure => simp [intOf]; omega
          · have e1 : (x.toList == s.toList) = false := by rw [tl_eq]; exact decide_eq_false hxs
            have e2 : (((Dc.idx D x : Nat) : Int) == ((Dc.idx D s : Nat) : Int)) = false := by have := hapart hxs; simp; omega
            have HFM : Hid (f = true ↔ s ∉ L.take (q + 1)) := Lib.hid (by rw [hfm, HF.out]; exact ⟨fun h => ⟨h, hxs⟩, fun h => h.1⟩)
            generalize Dc.idx D x = ix at *
            generalize Dc.idx D s = is_ at *
            clear hfm hapart hxs hx HF
            go_wp2_with fail
            go_region
            all_goals
              go_wp2_with fail
              cases f with
              | true =>
                go_region
                all_goals
                  go_wp2_with fail
                  go_roundw
                  case rel => exact ⟨q + 1, true, by omega, by go_num, rfl, HFM, HB2⟩
                  case measure => simp [intOf]; omega
              | false =>
                go_region
                all_goals
                  go_wp2_with fail
                  go_roundw
                  case rel => exact ⟨q + 1, false, by omega, by go_num, rfl, HFM, HB2⟩
                  case measure => simp [intOf]; omega
        · obtain rfl : q = k := by omega
          have hqk1 : ¬ (q : Int) < (q : Nat) := by omega
          obtain ⟨bn, on, rfl, p2⟩ := rdI_cell HRI.out HB.out HNI.out
          cases f with
          | true =>
            obtain ⟨h1, h2⟩ := HNW.out q s HSK.out (HF.out.1 rfl)
            rw [h1] at p2
            have HK2 : Hid ((Dc.dk L (q + 1)).length ≤ q + 1) := Lib.hid (by rw [h2]; have := HKL.out; omega)
            have hd2 : ((Dc.dk L (q + 1)).length : Int) = ((Dc.dk L q).length : Int) + 1 := by omega
            have hdl := HKL.out
            clear HF h1
            go_wp2_with fail
            go_roundw
            case rel => exact ⟨q + 1, by omega, by go_num, by rw [hd2], HK2, HB⟩
            case measure => simp [intOf]; omega
          | false =>
            have hm : s ∈ L.take q := by
              by_cases h : s ∈ L.take q
              · exact h
              · exact absurd (HF.out.2 h) (by simp)
            have h2 := Dc.dk_old HSK.out hm
            have HK2 : Hid ((Dc.dk L (q + 1)).length ≤ q + 1) := Lib.hid (by rw [h2]; have := HKL.out; omega)
            have hd2 : ((Dc.dk L (q + 1)).length : Int) = ((Dc.dk L q).length : Int) := by omega
            clear HF hm
            go_wp2_with fail
            go_roundw
            case rel => exact ⟨q + 1, by omega, by go_num, by rw [hd2], HK2, HB⟩
            case measure => simp [intOf]; omega
    · obtain rfl : k = L.length := by omega
      have hlt1 : ¬ (L.length : Int) < L.length := by omega
      rw [HDE.out]
      go_wp2_with fail
      refine (works _).mono ?_
      rintro e w9 ⟨rfl, b9⟩
      go_wp2_with fail
      go_ret
      exact ⟨by simp, up B4.out (up HB.out b9)⟩
end Go.Proofs.Ytenfjmdajlhfoaa
