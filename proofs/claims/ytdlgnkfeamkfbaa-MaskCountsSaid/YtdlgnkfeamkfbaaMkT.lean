/- The document's answer: Unpack. -/
import Derived.Test.YtdlgnkfeamkfbaaMkS
namespace Go.Proofs.Ytdlgnkfeamkfbaa
open Go.RowKit
set_option linter.unusedVariables false
set_option maxRecDepth 100000

/-- What the document's Unpack answers, in memory. -/
def UnPostR (w : World) (x : List Bool × Int × Nat) (e : Ending) (w' : World) : Prop := ∃ u, e = .returned (.tuple #[u, .int .i64 x.2.1, .int .i64 (x.2.2 : Nat)]) ∧ RdB w' w'.heap.size u x.1 ∧ Below w.heap.size w w'
theorem runpack_range (v : Value) (b : List Nat) (n : Int) (w : World) (h : n < 0 ∨ 1048576 < n) :
    Calls Try.prog 22 #[v, .int .i64 n] w (UnPostR w (Mk.un b n)) := by
  have HU := Lib.hid (show Mk.un b n = ([], 0, 6) by unfold Mk.un; rw [if_pos h])
  go_enter Try.func22, Try.ntmps22
  rcases h with h | h
  · go_wp2
    go_ret3
    exact ⟨.slice none 0 0, by rw [HU.out]; rfl, by rw [HU.out]; exact Gn.Rd.nil _ _, Below.refl _ _⟩
  · have h0 : ¬ n < 0 := by omega
    go_wp2
    go_ret3
    exact ⟨.slice none 0 0, by rw [HU.out]; rfl, by rw [HU.out]; exact Gn.Rd.nil _ _, Below.refl _ _⟩
theorem szP_nat (n : Nat) (h : n ≤ 1048576) (s : Nat) (hs : Mk.sz n = s) : szP (n : Nat) = (s : Nat) := by unfold szP; rw [if_neg (by omega), Int.toNat_natCast, hs]
theorem runpack_trunc (v : Value) (b : List Nat) (n : Nat) (w : World) (hb : Rd w w.heap.size v b) (h0 : n ≤ 1048576) (h : b.length < Mk.sz n) :
    Calls Try.prog 22 #[v, .int .i64 (n : Nat)] w (UnPostR w (Mk.un b (n : Nat))) := by
  have HU := Lib.hid (show Mk.un b (n : Nat) = ([], 0, 3) by unfold Mk.un; rw [if_neg (by omega), Int.toNat_natCast, if_pos h])
  obtain ⟨s, hs⟩ : ∃ s, Mk.sz n = s := ⟨_, rfl⟩
  have HS := Lib.hid (rsize (n : Nat) w _ (szP_nat n h0 s hs))
  rw [hs] at h
  have h1 : (b.length : Int) < (s : Int) := by omega
  have h2 : ¬ (n : Int) < 0 := by omega
  have h3 : ¬ (n : Int) > 1048576 := by omega
  have hm := hb.len
  unfold maxLen at hm
  obtain ⟨a, c, rfl, _⟩ := id hb
  clear hb hs
  go_enter Try.func22, Try.ntmps22
  go_wp2_with fail
  refine HS.out.mono ?_
  rintro e w' ⟨rfl, rfl⟩
  go_wp2
  go_ret3
  exact ⟨.slice none 0 0, by rw [HU.out]; rfl, by rw [HU.out]; exact Gn.Rd.nil _ _, Below.refl _ _⟩
theorem ub_snoc : ∀ (l : List Nat) (c : Nat), Mk.ub (l ++ [c]) = Mk.ub l ++ Mk.bn 8 c
  | [], c => by simp [Mk.ub]
  | x :: l, c => by rw [List.cons_append, Mk.ub, ub_snoc l c, Mk.ub, List.append_assoc]
theorem bn_snoc : ∀ (k c : Nat), Mk.bn (k + 1) c = Mk.bn k c ++ [c / 2 ^ k % 2 == 1]
  | 0, c => by simp [Mk.bn]
  | k + 1, c => by
    rw [Mk.bn, bn_snoc k (c / 2), Mk.bn, List.cons_append, Nat.div_div_eq_div_mul, Nat.pow_succ, Nat.mul_comm 2]
set_option maxHeartbeats 4000000 in
theorem runpack_go (v : Value) (b : List Nat) (n : Nat) (w : World) (hb : Rd w w.heap.size v b) (h0 : n ≤ 1048576) (h : Mk.sz n ≤ b.length) :
    Calls Try.prog 22 #[v, .int .i64 (n : Nat)] w (UnPostR w (Mk.un b (n : Nat))) := by
  obtain ⟨s, hs⟩ : ∃ s, Mk.sz n = s := ⟨_, rfl⟩
  have HUN : Hid (Mk.un b (n : Nat) = if Mk.cnt ((Mk.ub (b.take s)).drop n) ≠ 0 then ([], 0, 140) else ((Mk.ub b).take n, (s : Int), 0)) := Lib.hid (by
    unfold Mk.un; rw [if_neg (by omega), Int.toNat_natCast, if_neg (by omega), hs])
  have HS := Lib.hid (fun w1 => rsize (n : Nat) w1 _ (szP_nat n h0 s hs))
  rw [hs] at h
  have hn8 : n ≤ 8 * s := by rw [← hs]; unfold Mk.sz; omega
  have hs2 : s ≤ 131072 := by rw [← hs]; unfold Mk.sz; omega
  have h1 : ¬ (b.length : Int) < (s : Int) := by omega
  have h2 : ¬ (n : Int) < 0 := by omega
  have h3 : ¬ (n : Int) > 1048576 := by omega
  have hm := hb.len
  unfold maxLen at hm
  have HR := Lib.hid hb
  have HT := Lib.hid (Mk.ub_take s b)
  obtain ⟨a, c, rfl, _⟩ := id hb
  have HH := Lib.hid h
  clear hb hs h
  go_enter Try.func22, Try.ntmps22
  go_wp2_with fail
  refine (HS.out w).mono ?_
  rintro e w' ⟨rfl, rfl⟩
  go_wp2
  clear h1
  simp only [show decide (b.length < s) = false by simp; have := HH.out; omega]
  go_loopw [7, 8] (fun av i wr => ∃ k : Nat, k ≤ s ∧ i = .int .i64 (k : Nat) ∧ Hid (OwnB wr w.heap.size av (Mk.ub (b.take k))) ∧ Hid (Below w.heap.size w wr)) (fun _ i _ => s - (intOf i).toNat)
  case atStart => exact ⟨0, by omega, rfl, Lib.hid (Gn.Own.nil _ _), Lib.hid (Below.refl _ _)⟩
  case round =>
    obtain ⟨k, hk, rfl, HO, HW⟩ := hrel
    go_wp2_with fail
    refine (HS.out wr).mono ?_
    rintro e w' ⟨rfl, rfl⟩
    by_cases hlt : k < s
    · have hlt1 : (k : Int) < (s : Int) := by omega
      have hkb : k < b.length := by have := HH.out; omega
      have hlt2 : (k : Int) < (b.length : Int) := by omega
      have hdl : decide ((k : Int) < (s : Int)) = true := by simp; omega
      obtain ⟨ba, off, rfl, p0, hc2⟩ := rd_cell HR.out HW.out (i := k) (by omega)
      have hcc : b.take (k + 1) = b.take k ++ [b.getD k 0] := by rw [List.take_add_one, List.getD_eq_getElem?_getD, List.getElem?_eq_getElem (by omega)]; rfl
      have HTK := Lib.hid (congrArg Mk.ub hcc)
      generalize b.getD k 0 = cc at *
      have hol : (Mk.ub (b.take k)).length = 8 * k := by rw [Mk.ub_len, List.length_take]; have := HH.out; omega
      have HOL := Lib.hid hol
      clear hcc hol
      rw [ub_snoc] at HTK
      generalize Mk.ub (b.take k) = U at *
      go_wp2
      go_loopw [7, 9, 10] (fun av cv i wx => ∃ j d : Nat, j ≤ 8 ∧ i = .int .i64 (j : Nat) ∧ cv = .int .u8 (d : Nat) ∧ d < 256 ∧ Hid (cc / 2 ^ j = d) ∧ Hid (OwnB wx w.heap.size av (U ++ Mk.bn j cc)) ∧ Hid (Below w.heap.size w wx)) (fun _ _ i _ => 8 - (intOf i).toNat)
      case atStart => exact ⟨0, cc, by omega, rfl, rfl, hc2, Lib.hid (by simp), Lib.hid (by rw [Mk.bn, List.append_nil]; exact HO.out), HW⟩
      case round =>
        clear HO HW p0
        obtain ⟨j, d, hj, rfl, rfl, hd, HD, HO, HW⟩ := hrel
        by_cases hlj : j < 8
        · have hlj1 : (j : Int) < 8 := by omega
          obtain ⟨x, hx⟩ : ∃ x, (d % 2 == 1) = x := ⟨_, rfl⟩
          have e1 : ((d : Int) % 2 == 1) = x := by
            rw [← hx]
            rcases Nat.mod_two_eq_zero_or_one d with h | h
            · have : (d : Int) % 2 = 0 := by omega
              rw [this, h]; rfl
            · have : (d : Int) % 2 = 1 := by omega
              rw [this, h]; rfl
          obtain ⟨d2, hd2⟩ : ∃ d2, d / 2 = d2 := ⟨_, rfl⟩
          have e2 : (d : Int) / 2 = (d2 : Int) := by omega
          have HD2 : Hid (cc / 2 ^ (j + 1) = d2) := Lib.hid (by rw [Nat.pow_succ, ← Nat.div_div_eq_div_mul, HD.out, hd2])
          have HBN : Hid (U ++ Mk.bn j cc ++ [x] = U ++ Mk.bn (j + 1) cc) := Lib.hid (by rw [bn_snoc, HD.out, hx, List.append_assoc])
          have HL : Hid ((U ++ Mk.bn j cc).length + 1 ≤ 100000000) := Lib.hid (by rw [List.length_append, HOL.out, Mk.bn_len]; omega)
          have HO1 := Lib.hid (Gn.Own.later HO.out (up_new wr (.cells #[.bool x] 4)))
          have hsw := Lib.hid HW.out.size
          have HW1 := Lib.hid (HW.out.alloc HW.out.size (.cells #[.bool x] 4))
          have HRD := Lib.hid (RdB.of (Gn.Own.lit ebL wr 0 [x] #[.bool x] 1 1 rfl rfl rfl (by simp [maxLen]) (Nat.zero_le _)))
          have hd3 : d2 < 256 := by omega
          clear HO HW HD hd2 hx
          go_wp2_with (at_builtin
                       refine Gn.wpList_app ebL ebY rfl (.tmp 36) (.tmp 40) rfl w.heap.size _ _ rfl HO1.out _ [x] rfl HRD.out HL.out (by have := hsw.out; simp; omega) ?_
                       intro v1 w1 ho1 hg1 hl1 hn1
                       rw [HBN.out] at ho1
                       have HO2 := Lib.hid ho1
                       have HW2 := Lib.hid (HW1.out.trans (Gn.below_of_own HO1.out hg1 (by have := hsw.out; simp; omega)))
                       clear ho1 hg1 hl1 hn1)
          go_roundw
          case rel => exact ⟨j + 1, d2, by omega, by go_num, rfl, hd3, HD2, HO2, HW2⟩
          case measure => simp [intOf]; omega
        · obtain rfl : j = 8 := by omega
          have HO2 := Lib.hid (HTK.out.symm ▸ HO.out : OwnB wr w.heap.size u7 (Mk.ub (b.take (k + 1))))
          clear HO
          go_wp2
          go_roundw
          case rel => exact ⟨k + 1, by omega, by go_num, HO2, HW⟩
          case measure => simp [intOf]; omega
    · obtain rfl : k = s := by omega
      have hlt1 : ¬ (k : Int) < (k : Int) := by omega
      have hul : (Mk.ub (b.take k)).length = 8 * k := by rw [Mk.ub_len, List.length_take]; have := HH.out; omega
      have hr := RdB.of HO.out
      obtain ⟨ua, uc, e7, _⟩ := Gn.Rd.form hr
      subst e7
      obtain ⟨v1, hv1, hr1⟩ := Gn.cut_from ebY wr wr.heap.size ua _ _ uc n hr rfl (by omega)
      obtain ⟨v2, hv2, hr2⟩ := Gn.cut_to ebY wr wr.heap.size ua _ _ uc n hr rfl (by omega)
      have e8 : (Mk.ub (b.take k)).take n = (Mk.ub b).take n := by rw [HT.out, List.take_take, Nat.min_eq_left hn8]
      rw [e8] at hr2
      obtain ⟨z, hz⟩ : ∃ z, Mk.cnt ((Mk.ub (b.take k)).drop n) = z := ⟨_, rfl⟩
      have HC := Lib.hid (rcount v1 _ wr hr1 z hz)
      rw [hz] at HUN
      have HR2 := Lib.hid hr2
      rw [hul] at hv1 hv2 ⊢
      clear hr hr1 hr2 e8 hz HO HT
      go_wp2_with fail
      refine HC.out.mono ?_
      rintro e w' ⟨rfl, rfl⟩
      by_cases hz0 : z = 0
      · subst hz0
        have hz1 : ¬ ((0 : Nat) : Int) > 0 := by omega
        have HU : Hid (Mk.un b (n : Nat) = ((Mk.ub b).take n, (k : Int), 0)) := Lib.hid (by rw [HUN.out, if_neg (by simp)])
        clear HUN HC hv1
        go_wp2
        go_quiet (exact Calls.quiet_of_same ((HS.out _).mono (fun _ _ h => ⟨h.1, h.2.symm⟩)))
        go_wp2
        go_ret3
        exact ⟨v2, by rw [HU.out]; rfl, by rw [HU.out]; exact HR2.out, HW.out.trans ⟨rfl, rfl, rfl, Nat.le_refl _, fun _ _ => rfl⟩⟩
      · have hz1 : (z : Int) > 0 := by omega
        have HU : Hid (Mk.un b (n : Nat) = ([], 0, 140)) := Lib.hid (by rw [HUN.out, if_pos hz0])
        clear HUN HC hv1
        go_wp2
        go_ret3
        exact ⟨.slice none 0 0, by rw [HU.out]; rfl, by rw [HU.out]; exact Gn.Rd.nil _ _, HW.out⟩
theorem runpack (v : Value) (b : List Nat) (n : Int) (w : World) (hb : Rd w w.heap.size v b) :
    Calls Try.prog 22 #[v, .int .i64 n] w (UnPostR w (Mk.un b n)) := by
  by_cases h : n < 0 ∨ 1048576 < n
  · exact runpack_range v b n w h
  · obtain ⟨m, rfl⟩ := Int.eq_ofNat_of_zero_le (a := n) (by omega)
    by_cases h2 : b.length < Mk.sz m
    · exact runpack_trunc v b m w hb (by omega) h2
    · exact runpack_go v b m w hb (by omega) (by omega)
end Go.Proofs.Ytdlgnkfeamkfbaa
