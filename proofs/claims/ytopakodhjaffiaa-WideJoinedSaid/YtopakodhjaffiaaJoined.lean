/- The walk of WideJoined. -/
import Derived.Test.YtopakodhjaffiaaTurnP
import Derived.Deep.DeepCutAuto
import Derived.Deep.DrawnRows
import Derived.StillTailTactics
import Derived.Deep.RegionLawGrows
namespace Go.Proofs.Ytopakodhjaffiaa
open Go.RowKit
set_option linter.unusedVariables false
attribute [local go_sem ↓] Go.wp_at_zero Go.wp_at_succ
attribute [local irreducible] Go.wpStill

/-- What a cut at 60 makes. -/
theorem cut60 (w : World) (a : Option Addr) (l0 l : List (Int × Int)) (c : Nat) (h : RdP w w.heap.size (.slice a l0.length c) l0) (hl : l0.take 60 = l) :
    l.length ≤ 60 ∧ (l.length : Int) = min (l0.length : Int) 60 ∧ RdP w w.heap.size (.slice a l.length c) l ∧ l.length ≤ c := by
  subst hl
  have h2 := h.take 60
  obtain ⟨_, c', e, h3, _⟩ := id h2
  injection e with _ _ e3
  subst e3
  exact ⟨by rw [List.length_take]; omega, by rw [List.length_take]; omega, h2, h3⟩
set_option maxHeartbeats 16000000 in
set_option maxRecDepth 100000 in
theorem wideJoined (v : Value) (l0 : List (Int × Int)) (v' : Value) (m0 : List (Int × Int)) (t : Int) (w : World) (h : RdP w w.heap.size v l0) (h' : RdP w w.heap.size v' m0) (t0 : -9223372036854775808 ≤ t) (t1 : t ≤ 9223372036854775807) :
    Calls Try.prog 10 #[v, v', .int .i64 t] w fun e w' => e = .returned (.bool true) ∧ Below w.heap.size w w' := by
  obtain ⟨a, c, rfl, hlc, hcm, _⟩ := id h
  obtain ⟨a', c', rfl, hlc', hcm', _⟩ := id h'
  unfold maxLen at hcm hcm'
  obtain ⟨l, hl⟩ : ∃ l, l0.take 60 = l := ⟨_, rfl⟩
  obtain ⟨m, hm⟩ : ∃ m, m0.take 60 = m := ⟨_, rfl⟩
  obtain ⟨q1, q2, q3, q4⟩ := cut60 w a l0 l c h hl
  obtain ⟨q1', q2', q3', q4'⟩ := cut60 w a' m0 m c' h' hm
  have HL := Lib.hid q3
  have HM := Lib.hid q3'
  have HBR := fun n w h1 h2 => bring t n w t0 t1 h1 h2
  have HBRH := Lib.hid HBR
  clear h h' hl hm q3 q3' HBR t0 t1
  go_enter Try.func10, Try.ntmps10
  go_upto_region 3 with (first | ((with_reducible refine (works _).mono ?_); rintro e w1 ⟨rfl, b1⟩))
  have B1 := Lib.hid b1
  clear b1
  go_cut [0, 1] (fun s0 s1 wx => s0 = .slice a l.length c ∧ s1 = .slice a' m.length c' ∧ Hid (Below w.heap.size w wx))
  case first =>
    have e60 : (60 : Int) < l0.length ∨ ¬ (60 : Int) < l0.length := by omega
    have e61 : (60 : Int) < m0.length ∨ ¬ (60 : Int) < m0.length := by omega
    rcases e60 with k1 | k1
    all_goals
      rcases e61 with k2 | k2
    all_goals
      go_region
      go_wp2_with fail
      go_meet
      exact ⟨by congr 1; omega, by congr 1; omega, Lib.hid (Below.drew B1.out)⟩
  case rest =>
  obtain ⟨rfl, rfl, B2⟩ := hcut
  clear B1 q2 q2'
  have HL2 := Lib.hid (HL.out.later B2.out)
  have HM2 := Lib.hid (HM.out.later B2.out)
  have HOM := Lib.hid (OwnP.made wc)
  have HBN := Lib.hid (up_new wc (.cells #[] 25))
  have HLE := Lib.hid (HL2.out.later HBN.out)
  have HME := Lib.hid (HM2.out.later HBN.out)
  obtain ⟨both, hbo⟩ : ∃ b, l ++ m = b := ⟨_, rfl⟩
  have hbl : both.length ≤ 120 := by rw [← hbo, List.length_append]; omega
  obtain ⟨k, hk, hkl⟩ : ∃ k : Nat, t % ((both.length : Int) + 1) = k ∧ k ≤ both.length := by
    have e1 := Int.emod_nonneg t (b := (both.length : Int) + 1) (by omega)
    have e2 := Int.emod_lt_of_pos t (b := (both.length : Int) + 1) (by omega)
    generalize t % ((both.length : Int) + 1) = r at *
    exact ⟨r.toNat, by omega, by omega⟩
  have HBO := Lib.hid hbo
  have HK := Lib.hid hk
  have HBK : Hid (∀ w, Calls Try.prog 34 #[.int .i64 t, .int .i64 ((both.length : Int) + 1)] w fun e w' => e = .returned (.int .i64 (k : Int)) ∧ w = w') := Lib.hid (fun w => by rw [← HK.out]; exact HBRH.out _ w (by omega) (by omega))
  clear hbo hk HBRH
  go_upto_region 6 with (first
    | (at_builtin
       refine wpList_appP rfl (.tmp 33) (.tmp 34) rfl wc.heap.size (.slice (some ⟨wc.heap.size, 0, none⟩) 0 0) [] rfl HOM.out (.slice a l.length c) l rfl HLE.out (by simp; omega) (by simp) ?_
       intro v1 w1 ho1 hb1
       rw [List.nil_append] at ho1
       have HO1 := Lib.hid ho1
       have HB1 := Lib.hid (HBN.out.trans hb1)
       clear ho1 hb1)
    | (at_builtin
       refine wpList_appP rfl (.tmp 35) (.tmp 36) rfl wc.heap.size v1 l rfl HO1.out (.slice a' m.length c') m rfl (HM2.out.later HB1.out) (by omega) HB1.out.size ?_
       intro v2 w2 ho2 hb2
       rw [HBO.out] at ho2
       have HO2 := Lib.hid ho2
       have HB2 := Lib.hid (HB1.out.trans hb2)
       clear hb2 HO1 HB1
       obtain ⟨a2, c2, e2, hlc2, _⟩ := ho2.rd
       subst e2
       clear ho2)
    | ((with_reducible refine (HBK.out _).mono ?_); rintro e w3 ⟨rfl, rfl⟩))
  clear HBK HLE HME HBN HOM
  have HB3 := Lib.hid (up B2.out HB2.out)
  have HL3 := Lib.hid (HL2.out.later HB2.out)
  have HM3 := Lib.hid (HM2.out.later HB2.out)
  clear B2 HB2 HL2 HM2 HL HM
  obtain ⟨uf, huf, huf2⟩ := cutP_from w2 _ a2 both both.length c2 k HO2.out.rd rfl hkl
  obtain ⟨ut, hut, hut2⟩ := cutP_to w2 _ a2 both both.length c2 k HO2.out.rd rfl hkl
  have HUF := Lib.hid (huf2.later (up_new w2 (.cells #[] 25)))
  have HUT := Lib.hid hut2
  have HBN := Lib.hid (up_new w2 (.cells #[] 25))
  have HOM := Lib.hid (OwnP.made w2)
  clear huf2 hut2
  go_cut [9] (fun s9 wx => Hid (OwnP wx w2.heap.size s9 (both.drop k ++ both.take k)) ∧ Hid (Below w2.heap.size w2 wx))
  case first =>
    go_region_law (first
      | (refine step_appP rfl (.tmp 43) (.tmp 46) rfl w2.heap.size (.slice (some ⟨w2.heap.size, 0, none⟩) 0 0) [] rfl HOM.out uf (both.drop k) rfl HUF.out (by simp; omega) (by simp) ?_
         intro v3 w3 ho3 hb3
         rw [List.nil_append] at ho3
         have HO3 := Lib.hid ho3
         have HB4 : Hid (Below w2.heap.size w2 w3) := Lib.hid (HBN.out.trans ⟨hb3.os, hb3.tape, hb3.output, hb3.size, hb3.block⟩)
         clear ho3 hb3)
      | (refine step_appP rfl (.tmp 47) (.tmp 50) rfl w2.heap.size v3 (both.drop k) rfl HO3.out ut (both.take k) rfl (HUT.out.later HB4.out) (by rw [List.length_drop, List.length_take]; omega) HB4.out.size ?_
         intro v4 w4 ho4 hb4
         have HO4 := Lib.hid ho4
         have HB5 := Lib.hid (HB4.out.trans hb4)
         clear ho4 hb4))
    all_goals
      go_wp2_with fail
      go_meet
      exact ⟨HO4, HB5⟩
  case rest =>
  obtain ⟨HO4, HB5⟩ := hcut
  clear HUF HUT HBN HOM huf hut uf ut
  obtain ⟨rl, hrl⟩ : ∃ r, both.drop k ++ both.take k = r := ⟨_, rfl⟩
  have HD := Lib.hid (show dot rl = dot both by rw [← hrl, dot_turn])
  have hN : rl.length ≤ 120 := by rw [← hrl, List.length_append, List.length_drop, List.length_take]; omega
  rw [hrl] at HO4
  obtain ⟨a4, c4, e4, hlc4, _⟩ := HO4.out.rd
  subst e4
  clear hrl
  obtain ⟨N, hNN⟩ : ∃ N, rl.length = N := ⟨_, rfl⟩
  rw [hNN] at HO4 hN hlc4 ⊢
  go_wp2_with fail
  go_loopw [10] (fun i ww => ∃ (j : Nat) (L : List (Int × Int)), j ≤ N ∧ i = .int .i64 j ∧ L.length = N ∧ Hid (OwnP ww w2.heap.size (.slice a4 N c4) L) ∧ Hid (dot L = dot both) ∧ Hid (Below w2.heap.size w2 ww)) (fun i _ => N - (intOf i).toNat)
  case atStart => exact ⟨0, rl, by omega, rfl, hNN, HO4, HD, HB5⟩
  case round =>
    clear HO4 HD HB5
    obtain ⟨j, L, hj, rfl, hLN, HO, HD, HB⟩ := hrel
    by_cases hlt : j < N
    · have hlt' : (j : Int) < N := by omega
      by_cases h3 : j % 3 = 1
      · have h3' : (((j : Int) % 3) == 1) = true := by simp; omega
        obtain ⟨g, cap, e5, hg, hgl, hfz⟩ := HO.out.form (by omega)
        injection e5 with e5 e6 e7
        subst e5 e7
        clear e6
        obtain ⟨b, off, p, e8, hp, hok, q0, q1⟩ := HO.out.rd.at (Below.refl _ _) (i := j) (by omega)
        injection e8 with e8
        injection e8 with e8 e9
        subst e8 e9
        rw [Nat.zero_add] at q0 q1
        have f2 : wr.frozen? ⟨g, j * 2, none⟩ = false := hfz _
        have f3 : wr.frozen? ⟨g, j * 2 + 1, none⟩ = false := hfz _
        have q0' : wr.drew.cell? ⟨g, j * 2, none⟩ = some (.int .i64 p.1) := q0
        have q1' : wr.drew.cell? ⟨g, j * 2 + 1, none⟩ = some (.int .i64 p.2) := q1
        have f0 : wr.drew.frozen? ⟨g, j * 2, none⟩ = false := hfz _
        have f1 : wr.drew.frozen? ⟨g, j * 2 + 1, none⟩ = false := hfz _
        have HS := Lib.hid (OwnP.stored HO.out hLN j (by omega) (p.2, p.1) ⟨hok.2, hok.1⟩)
        have HDS : Hid (dot (L.set j (p.2, p.1)) = dot both) := Lib.hid ((dot_set L j p hp).trans HD.out)
        have HBS : Hid (Below w2.heap.size w2 ((wr.setCell ⟨g, j * 2, none⟩ (.int .i64 p.2)).setCell ⟨g, j * 2 + 1, none⟩ (.int .i64 p.1))) := Lib.hid ((HB.out.setCell (by simpa using hg) _).setCell (by simpa using hg) _)
        have hLS : (L.set j (p.2, p.1)).length = N := by rw [List.length_set]; exact hLN
        obtain ⟨L', hL'⟩ : ∃ L', L.set j (p.2, p.1) = L' := ⟨_, rfl⟩
        rw [hL'] at HS HDS hLS
        simp only at HS
        generalize p.1 = p1 at *
        generalize p.2 = p2 at *
        clear hp hok hL' hfz HD HO HB
        go_wp2_with fail
        refine wp_region_still_tail 14 (by kernel_rfl) (by kernel_rfl) ?_
        simp only [List.take_succ_cons, List.take_zero, List.drop_succ_cons, List.drop_zero]
        repeat still_step
        refine wpStill_nil ?_
        go_wp2_with fail
        go_roundw
        case rel => exact ⟨j + 1, L', by omega, by go_num, hLS, Lib.hid HS.out, HDS, Lib.hid HBS.out.drew⟩
        case measure => simp [intOf]; omega
      · have h3' : (((j : Int) % 3) == 1) = false := by simp; omega
        go_wp2_with fail
        go_roundw
        case rel => exact ⟨j + 1, L, by omega, by go_num, hLN, HO, HD, HB⟩
        case measure => simp [intOf]; omega
    · have hlt' : ¬ (j : Int) < N := by omega
      have HO6 := Lib.hid (HO2.out.later HB.out)
      have HL6 := Lib.hid (HL3.out.later HB.out)
      have HM6 := Lib.hid (HM3.out.later HB.out)
      have HB6 := Lib.hid (up HB3.out HB.out)
      have HDA : Hid (dot both = dot l + dot m) := Lib.hid (by rw [← HBO.out, dot_append])
      clear HO2 HL3 HM3 HB3 HB HBO hN hbl hkl q1 q1' hlc hlc' hcm hcm' q4 q4' hj hlc2 hlc4
      have D1 := Lib.hid (fun w => dot_ (.slice a2 both.length c2) both w)
      have D2 := Lib.hid (fun w => dot_ (.slice a4 N c4) L w)
      rw [HD.out] at D2
      have D3 := Lib.hid (fun w => dot_ (.slice a l.length c) l w)
      have D4 := Lib.hid (fun w => dot_ (.slice a' m.length c') m w)
      go_wp2_with fail
      ((with_reducible refine (D1.out _ HO6.out.rd).mono ?_); rintro e w5 ⟨rfl, b5⟩)
      have HO7 := Lib.hid (HO.out.later b5)
      have HL7 := Lib.hid (HL6.out.later b5)
      have HM7 := Lib.hid (HM6.out.later b5)
      have HB7 := Lib.hid (up HB6.out b5)
      clear b5 HO6 HL6 HM6 HB6 HO D1
      go_wp2_with fail
      ((with_reducible refine (D2.out _ HO7.out.rd).mono ?_); rintro e w6 ⟨rfl, b6⟩)
      have HL8 := Lib.hid (HL7.out.later b6)
      have HM8 := Lib.hid (HM7.out.later b6)
      have HB8 := Lib.hid (up HB7.out b6)
      clear b6 HO7 HL7 HM7 HB7 D2 HD
      go_wp2_with fail
      ((with_reducible refine (D3.out _ HL8.out).mono ?_); rintro e w7 ⟨rfl, b7⟩)
      have HM9 := Lib.hid (HM8.out.later b7)
      have HB9 := Lib.hid (up HB8.out b7)
      clear b7 HL8 HM8 HB8 D3
      go_wp2_with fail
      ((with_reducible refine (D4.out _ HM9.out).mono ?_); rintro e w8 ⟨rfl, b8⟩)
      have HB10 := Lib.hid (up HB9.out b8)
      clear b8 HM9 HB9 D4
      by_cases f1 : Wd.F64 (dot l)
      · by_cases f2 : Wd.F64 (dot m)
        · have P := Lib.hid (fun w => plus (dot l) (dot m) w f1.1 f1.2 f2.1 f2.2)
          rw [← HDA.out] at P
          have y1 := Wd.ce_yes _ f1
          have y2 := Wd.ce_yes _ f2
          have y3 := Wd.ck_yes _ f1
          have y4 := Wd.ck_yes _ f2
          clear f1 f2 HDA
          generalize dot l = dl at *
          generalize dot m = dm at *
          generalize dot both = db at *
          go_wp2_with fail
          ((with_reducible refine (P.out _).mono ?_); rintro e w9 ⟨rfl, b9⟩)
          have HB11 := Lib.hid (up HB10.out b9)
          clear b9 HB10
          go_wp2
          go_ret
          exact ⟨rfl, HB11.out⟩
        · have y1 := Wd.ce_yes _ f1
          have y2 := Wd.ce_no _ f2
          clear f1 f2 HDA
          generalize dot l = dl at *
          generalize dot m = dm at *
          generalize dot both = db at *
          go_wp2
          go_ret
          exact ⟨rfl, HB10.out⟩
      · have y1 := Wd.ce_no _ f1
        clear f1 HDA
        generalize dot l = dl at *
        generalize dot m = dm at *
        generalize dot both = db at *
        go_wp2
        go_ret
        exact ⟨rfl, HB10.out⟩
end Go.Proofs.Ytopakodhjaffiaa
