/- The reference's place, Split, Join. -/
import Derived.Test.YtenfjmdajlhfoaaDcH
namespace Go.Proofs.Ytenfjmdajlhfoaa
open Go.RowKit
set_option linter.unusedVariables false
set_option maxRecDepth 100000

def posI (d : List ByteArray) (x : ByteArray) : Int := if Dc.idx d x < d.length then (Dc.idx d x : Nat) else -1
theorem idx_none {d : List ByteArray} {x : ByteArray} (h : ∀ j, j < d.length → d[j]? ≠ some x) : ¬ Dc.idx d x < d.length := fun h2 => h _ h2 (Dc.idx_get d x h2)
set_option maxHeartbeats 4000000 in
theorem rplace (v : Value) (d : List ByteArray) (x : ByteArray) (w : World) (h : RdT w w.heap.size v d) (p : Int) (hp : posI d x = p) :
    Calls Try.prog 28 #[v, .string x] w fun e w' => e = .returned (.int .i64 p) ∧ Below w.heap.size w w' := by
  have HR := Lib.hid h
  have HP := Lib.hid hp
  have hml := Gn.Rd.len' h
  obtain ⟨a, c, rfl, _⟩ := Gn.Rd.form h
  clear h hp
  go_enter Try.func28, Try.ntmps28
  go_wp2_with fail
  go_loopw [5] (fun i wr => ∃ k : Nat, k ≤ d.length ∧ i = .int .i64 (k : Nat) ∧ Hid (∀ j, j < k → d[j]? ≠ some x) ∧ Hid (Below w.heap.size w wr)) (fun i _ => d.length - (intOf i).toNat)
  case atStart => exact ⟨0, by omega, rfl, Lib.hid (fun j hj => by omega), Lib.hid (Below.refl _ _)⟩
  case round =>
    obtain ⟨k, hk, rfl, HN, HU⟩ := hrel
    by_cases hlt : k < d.length
    · have hlt1 : (k : Int) < d.length := by omega
      obtain ⟨y, hy⟩ : ∃ y, d[k]? = some y := ⟨_, List.getElem?_eq_getElem hlt⟩
      obtain ⟨b, off, rfl, p0⟩ := rdT_cell HR.out HU.out hy
      by_cases hxy : y = x
      · have e1 : (y.toList == x.toList) = true := by rw [tl_eq]; exact decide_eq_true hxy
        have hi : Dc.idx d x = k := Dc.idx_of d x k (by rw [hy, hxy]) HN.out
        have hp := HP.out
        unfold posI at hp
        rw [hi, if_pos hlt] at hp
        subst hp
        clear hi hy hxy HP HN
        go_wp2_with fail
        try rw [Exit.noGoto_ret]
        go_ret
        exact ⟨rfl, HU.out⟩
      · have e1 : (y.toList == x.toList) = false := by rw [tl_eq]; exact decide_eq_false hxy
        have HN2 : Hid (∀ j, j < k + 1 → d[j]? ≠ some x) := Lib.hid (fun j hj => by
          rcases Nat.lt_succ_iff_lt_or_eq.1 hj with h | rfl
          · exact HN.out j h
          · rw [hy]; intro e; injection e with e; exact hxy e)
        clear hy hxy HN
        go_wp2_with fail
        go_roundw
        case rel => exact ⟨k + 1, by omega, by go_num, HN2, HU⟩
        case measure => simp [intOf]; omega
    · obtain rfl : k = d.length := by omega
      have hlt1 : ¬ (d.length : Int) < d.length := by omega
      have hp := HP.out
      unfold posI at hp
      rw [if_neg (idx_none HN.out)] at hp
      subst hp
      clear HN HP
      go_wp2_with fail
      go_ret
      exact ⟨rfl, HU.out⟩
theorem own_keep {α β : Type} {enc : α → List Value} {enc' : β → List Value} {k k' : Nat} {T T' : TypeId} {w w' : World} {B B' : Nat} {v v' : Value} {l : List α} {l' : List β} (h : Gn.Own enc k T w B v l) (h' : Gn.Own enc' k' T' w B' v' l') (hT : T ≠ T') (hg : w.grownBy w' v'.ownBlock) : Gn.Own enc k T w' B v l :=
  Gn.Own.kept h hg (own_apart h h' hT)
set_option maxHeartbeats 8000000 in
theorem rsplit (v : Value) (l : List ByteArray) (w : World) (h : RdT w w.heap.size v l) (hl : l.length ≤ 1000000) (R : List ByteArray × List Nat) (hR : Dc.spl [] [] l = R) :
    Calls Try.prog 14 #[v] w (SpPost w R) := by
  have HR := Lib.hid h
  have HS : Hid (Dc.spl [] [] (l.drop 0) = R) := Lib.hid hR
  obtain ⟨a, c, rfl, _⟩ := Gn.Rd.form h
  clear h hR
  go_enter Try.func14, Try.ntmps14
  go_wp2_with fail
  go_loopw [4, 5, 6] (fun dv nv i wr => ∃ (k : Nat) (d : List ByteArray) (N : List Nat), k ≤ l.length ∧ i = .int .i64 (k : Nat) ∧ Hid (N.length = k ∧ d.length ≤ k) ∧ Hid (Dc.spl d N (l.drop k) = R) ∧ Hid (OwnT wr w.heap.size dv d) ∧ Hid (OwnI wr w.heap.size nv (ofN N)) ∧ Hid (Below w.heap.size w wr)) (fun _ _ i _ => l.length - (intOf i).toNat)
  case atStart => exact ⟨0, [], [], by omega, rfl, Lib.hid ⟨rfl, by simp⟩, HS, Lib.hid (Gn.Own.nil _ _), Lib.hid (Gn.Own.nil _ _), Lib.hid (Below.refl _ _)⟩
  case round =>
    clear HS
    obtain ⟨k, d, N, hk, rfl, HL, HS, HD, HO, HW⟩ := hrel
    by_cases hlt : k < l.length
    · have hlt1 : (k : Int) < l.length := by omega
      obtain ⟨x, hx⟩ : ∃ x, l[k]? = some x := ⟨_, List.getElem?_eq_getElem hlt⟩
      have HX := Lib.hid hx
      obtain ⟨b, off, rfl, p0⟩ := rdT_cell HR.out HW.out hx
      have HS2 : Hid (Dc.spl (Dc.put d x) (N ++ [Dc.idx d x]) (l.drop (k + 1)) = R) := Lib.hid (by have := HS.out; rw [drop_at hx, Dc.spl_cons] at this; exact this)
      have HL2 : Hid ((N ++ [Dc.idx d x]).length = k + 1 ∧ (Dc.put d x).length ≤ k + 1) := Lib.hid ⟨by simp [HL.out.1], by have := Dc.put_len d x; have := HL.out; omega⟩
      have hNl : N.length ≤ 1000000 := by have := HL.out; omega
      have hdl : d.length ≤ 1000000 := by have := HL.out; omega
      obtain ⟨p, hp⟩ : ∃ p, posI d x = p := ⟨_, rfl⟩
      have HP := Lib.hid (rplace _ d x wr (RdT.of HD.out) p hp)
      unfold posI at hp
      by_cases hq : Dc.idx d x < d.length
      · rw [if_pos hq] at hp
        subst hp
        rw [Dc.put_old d x hq] at HS2 HL2
        generalize Dc.idx d x = q at *
        clear HS hx
        go_wp2_with fail
        refine HP.out.mono ?_
        rintro e w3 ⟨rfl, hb3⟩
        have HD3 := Lib.hid (HD.out.later hb3)
        have HO3 := Lib.hid (HO.out.later hb3)
        have HW3 := Lib.hid (HW.out.trans (hb3.mono HW.out.size))
        clear HP hb3 HD HO HW
        have hid3 := rdIn_one w3 (q : Nat)
        go_wp2_with (at_builtin
                     refine Gn.wpList_app inL inY rfl (.tmp 31) (.tmp 33) rfl w.heap.size _ (ofN N) rfl (HO3.out.later (up_new _ _)) _ [(q : Int)] rfl hid3 (by rw [ofN_len]; simp; omega) (by rw [World.size_alloc]; have := HW3.out.size; omega) ?_
                     intro v1 w4 ho4 hg4 hl4 hn4
                     have HD4 := Lib.hid (own_keep (HD3.out.later (up_new w3 (.cells #[.int .i64 (q : Nat)] 3))) (HO3.out.later (up_new _ _)) (Ne.symm in_ne_tx) hg4)
                     have HW4 := Lib.hid ((HW3.out.trans ((up_new w3 (.cells #[.int .i64 (q : Nat)] 3)).mono HW3.out.size)).trans (Gn.below_of_own (HO3.out.later (up_new w3 (.cells #[.int .i64 (q : Nat)] 3))) hg4 (by rw [World.size_alloc]; have := HW3.out.size; omega)))
                     have HO4 : Hid (OwnI w4 w.heap.size v1 (ofN (N ++ [q]))) := Lib.hid (by rw [ofN_snoc]; exact ho4)
                     clear ho4 hg4 hl4 hn4 hid3)
        go_roundw
        case rel => exact ⟨k + 1, _, _, by omega, by go_num, HL2, HS2, HD4, HO4, HW4⟩
        case measure => simp [intOf]; omega
      · rw [if_neg hq] at hp
        subst hp
        have hi : Dc.idx d x = d.length := by have := Dc.idx_le d x; omega
        rw [Dc.put_new d x hq, hi] at HS2 HL2
        clear HS hx hi hq
        obtain ⟨da, dc, rfl, _⟩ := own_form HD.out
        go_wp2_with fail
        refine HP.out.mono ?_
        rintro e w3 ⟨rfl, hb3⟩
        have HD3 := Lib.hid (HD.out.later hb3)
        have HO3 := Lib.hid (HO.out.later hb3)
        have HW3 := Lib.hid (HW.out.trans (hb3.mono HW.out.size))
        obtain ⟨b', off', e', p1⟩ := rdT_cell HR.out HW3.out HX.out
        injection e' with e'
        injection e' with e1 e2
        subst e1 e2
        clear HP hb3 HD HO HW
        have hid3 := rdTx_one w3 x
        go_wp2_with (first
          | (at_builtin
             refine Gn.wpList_app txL txY rfl (.tmp 24) (.tmp 29) rfl w.heap.size _ d rfl (HD3.out.later (up_new _ _)) _ [x] rfl hid3 (by simp; omega) (by rw [World.size_alloc]; have := HW3.out.size; omega) ?_
             intro v1 w4 ho4 hg4 hl4 hn4
             have HO4 := Lib.hid (own_keep (HO3.out.later (up_new w3 (.cells #[.string x] 9))) (HD3.out.later (up_new _ _)) in_ne_tx hg4)
             have HW4 := Lib.hid ((HW3.out.trans ((up_new w3 (.cells #[.string x] 9)).mono HW3.out.size)).trans (Gn.below_of_own (HD3.out.later (up_new w3 (.cells #[.string x] 9))) hg4 (by rw [World.size_alloc]; have := HW3.out.size; omega)))
             have HD4 := Lib.hid ho4
             have hid4 := rdIn_one w4 (d.length : Nat)
             clear ho4 hg4 hl4 hn4 hid3 HO3 HD3 HW3)
          | (at_builtin
             refine Gn.wpList_app inL inY rfl (.tmp 31) (.tmp 33) rfl w.heap.size _ (ofN N) rfl (HO4.out.later (up_new _ _)) _ [(d.length : Int)] rfl hid4 (by rw [ofN_len]; simp; omega) (by rw [World.size_alloc]; have := HW4.out.size; omega) ?_
             intro v2 w5 ho5 hg5 hl5 hn5
             have HD5 := Lib.hid (own_keep (HD4.out.later (up_new w4 (.cells #[.int .i64 (d.length : Nat)] 3))) (HO4.out.later (up_new _ _)) (Ne.symm in_ne_tx) hg5)
             have HW5 := Lib.hid ((HW4.out.trans ((up_new w4 (.cells #[.int .i64 (d.length : Nat)] 3)).mono HW4.out.size)).trans (Gn.below_of_own (HO4.out.later (up_new w4 (.cells #[.int .i64 (d.length : Nat)] 3))) hg5 (by rw [World.size_alloc]; have := HW4.out.size; omega)))
             have HO5 : Hid (OwnI w5 w.heap.size v2 (ofN (N ++ [d.length]))) := Lib.hid (by rw [ofN_snoc]; exact ho5)
             clear ho5 hg5 hl5 hn5 hid4))
        go_roundw
        case rel => exact ⟨k + 1, _, _, by omega, by go_num, HL2, HS2, HD5, HO5, HW5⟩
        case measure => simp [intOf]; omega
    · obtain rfl : k = l.length := by omega
      have hlt1 : ¬ (l.length : Int) < l.length := by omega
      have hE : (d, N) = R := by have := HS.out; rw [List.drop_length] at this; exact this
      subst hE
      clear HS
      go_wp2_with fail
      go_ret2
      exact ⟨_, _, rfl, HD.out, HO.out, HW.out⟩
end Go.Proofs.Ytenfjmdajlhfoaa
