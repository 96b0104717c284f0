/- Get: dictionaries, numbers, lists. -/
import Derived.Test.YtenfjmdajlhfoaaDcG
namespace Go.Proofs.Ytenfjmdajlhfoaa
open Go.RowKit
set_option linter.unusedVariables false
set_option maxRecDepth 100000

/-- What a reader of lists answers, in memory. -/
def GtPost (w : World) (x : List ByteArray × Nat × Nat) (e : Ending) (w' : World) : Prop := ∃ v, e = .returned (.tuple #[v, .int .i64 (x.2.1 : Nat), .int .i64 (x.2.2 : Nat)]) ∧ OwnT w' w.heap.size v x.1 ∧ Below w.heap.size w w'
theorem GtPost.err {w w' : World} (e : Nat) (h : Below w.heap.size w w') : GtPost w ([], 0, e) (.returned (.tuple #[.slice none 0 0, .int .i64 0, .int .i64 (e : Nat)])) w' := ⟨_, rfl, Gn.Own.nil _ _, h⟩
def gdP (b : List Nat) (n most : Int) : List ByteArray × Nat × Nat := if (Dc.gl b n).2.2 ≠ 0 then ([], 0, (Dc.gl b n).2.2) else Dc.gd b most (Dc.gl b n).1 [] (Dc.gl b n).2.1
set_option maxHeartbeats 8000000 in
theorem getDic (v : Value) (b : List Nat) (n most : Int) (w : World) (hb : Rd w w.heap.size v b) (n0 : 0 ≤ n) (n1 : n ≤ 1048576) (m0 : -9223372036854775808 ≤ most) (m1 : most ≤ 9223372036854775807) :
    Calls Try.prog 36 #[v, .int .i64 n, .int .i64 most] w (GtPost w (gdP b n most)) := by
  have HG := Lib.hid (getLim v b n w hb (by omega) (by omega))
  unfold gdP
  by_cases h1 : (Dc.gl b n).2.2 = 0
  · rw [if_neg (by simp [h1])]
    have hg1 := (Dc.gl_good b n hb.bytes h1).1
    have hg2 := (Dc.gl_good b n hb.bytes h1).2.2.2.1
    rw [h1] at HG
    generalize (Dc.gl b n).1 = many at *
    generalize (Dc.gl b n).2.1 = s0 at *
    have HR := Lib.hid hb
    have hbl := hb.len
    unfold maxLen at hbl
    obtain ⟨a, c, rfl, _⟩ := id hb
    obtain ⟨R, hR⟩ : ∃ R, Dc.gd b most many [] s0 = R := ⟨_, rfl⟩
    have HS0 : Hid (Dc.gd b most (many - 0) [] s0 = R) := Lib.hid hR
    have HN := Lib.hid (newDic w)
    rw [hR]
    have hm2 : many ≤ 1048576 := by omega
    clear hb h1 hR hg2
    go_enter Try.func36, Try.ntmps36
    go_wp2_with fail
    refine HG.out.mono ?_
    rintro e w' ⟨rfl, rfl⟩
    go_wp2_with fail
    refine HN.out.mono ?_
    rintro e w1 ⟨p, m, rfl, hd, hbw⟩
    have HB0 := Lib.hid hbw
    have HD0 := Lib.hid hd
    clear HN hd hbw HG
    go_wp2_with fail
    go_loopw [7, 28] (fun sv i wr => ∃ (k s : Nat) (d : List ByteArray) (dv : Value), k ≤ many ∧ s ≤ b.length ∧ sv = .int .i64 (s : Nat) ∧ i = .int .i64 (k : Nat) ∧ Hid (d.length ≤ k) ∧ Hid (Dc.gd b most (many - k) d s = R) ∧ Hid (DV wr w.heap.size p m dv d) ∧ Hid (Below w.heap.size w wr)) (fun _ i _ => many - (intOf i).toNat)
    case atStart => exact ⟨0, s0, [], _, by omega, hg1, rfl, rfl, Lib.hid (by simp), HS0, HD0, HB0⟩
    case round =>
      clear HS0 HD0 HB0
      obtain ⟨k, s, d, dv, hk, hs, rfl, rfl, HL, HS, HD, HW⟩ := hrel
      by_cases hlt : k < many
      · have hlt1 : (k : Int) < many := by omega
        have hsi : (s : Int) ≤ b.length := by omega
        obtain ⟨u, hu, hru⟩ := cut_from w w.heap.size a b c s HR.out hs
        have HT := Lib.hid (getTxt u (b.drop s) most wr (hru.later (Nat.le_refl _) HW.out) m0 m1)
        have hgs := (Dc.gt_size (b.drop s) most (Dc.mem_drop' HR.out.bytes s)).1
        rw [List.length_drop] at hgs
        have hS := HS.out
        rw [show many - k = (many - (k + 1)) + 1 by omega] at hS
        by_cases h2 : (Dc.gt (b.drop s) most).2.2 = 0
        · have HP := Lib.hid (place wr w.heap.size p m dv d (str (Dc.gt (b.drop s) most).1) HD.out (by have := HL.out; omega))
          by_cases h3 : Dc.idx d (str (Dc.gt (b.drop s) most).1) < d.length
          · rw [Dc.gd_dup b most _ d s h2 h3] at hS
            subst hS
            have hdec : decide (¬ Dc.idx d (str (Dc.gt (b.drop s) most).1) < d.length) = false := by simpa using h3
            unfold PlPost at HP
            rw [hdec] at HP
            rw [h2] at HT
            generalize str (Dc.gt (b.drop s) most).1 = x at *
            generalize (Dc.gt (b.drop s) most).2.1 = z at *
            clear hdec h2 h3 HS hru HL
            go_wp2_with fail
            refine HT.out.mono ?_
            rintro e w' ⟨rfl, rfl⟩
            go_wp2_with fail
            refine HP.out.mono ?_
            rintro e w3 ⟨rfl, dv2, hd2, ht⟩
            have HW3 := Lib.hid (HW.out.trans (ht.below HW.out.size HD.out.low))
            clear HP hd2 ht HW HD
            go_wp2_with fail
            try rw [Exit.noGoto_ret]
            go_ret3
            exact GtPost.err 150 HW3.out
          · rw [Dc.gd_ok b most _ d s h2 h3] at hS
            have HS2 := Lib.hid hS
            have hdec : decide (¬ Dc.idx d (str (Dc.gt (b.drop s) most).1) < d.length) = true := by simpa using h3
            have hput := Dc.put_new d _ h3
            unfold PlPost at HP
            rw [hdec, hput] at HP
            rw [h2] at HT
            generalize str (Dc.gt (b.drop s) most).1 = x at *
            generalize (Dc.gt (b.drop s) most).2.1 = z at *
            have HL2 : Hid ((d ++ [x]).length ≤ k + 1) := Lib.hid (by simp; exact HL.out)
            have hsz : (s : Int) + (z : Int) ≤ b.length := by omega
            clear hdec h2 h3 HS hS hru HL hput
            go_wp2_with fail
            refine HT.out.mono ?_
            rintro e w' ⟨rfl, rfl⟩
            go_wp2_with fail
            refine HP.out.mono ?_
            rintro e w3 ⟨rfl, dv2, hd2, ht⟩
            have HW3 := Lib.hid (HW.out.trans (ht.below HW.out.size HD.out.low))
            have HD3 := Lib.hid hd2
            clear HP hd2 ht HW HD
            go_wp2_with fail
            go_roundw
            case rel => exact ⟨k + 1, s + z, _, _, by omega, by omega, by go_num, by go_num, HL2, HS2, HD3, HW3⟩
            case measure => simp [intOf]; omega
        · rw [Dc.gd_err b most _ d s h2] at hS
          subst hS
          generalize str (Dc.gt (b.drop s) most).1 = x at *
          generalize (Dc.gt (b.drop s) most).2.1 = z at *
          generalize (Dc.gt (b.drop s) most).2.2 = er at *
          have h4 : ((er : Int) != 0) = true := by simpa using h2
          clear h2 HS hru HL
          go_wp2_with fail
          refine HT.out.mono ?_
          rintro e w' ⟨rfl, rfl⟩
          go_wp2_with fail
          try rw [Exit.noGoto_ret]
          go_ret3
          exact GtPost.err er HW.out
      · obtain rfl : k = many := by omega
        have hlt1 : ¬ (k : Int) < (k : Nat) := by omega
        have hS := HS.out
        rw [Nat.sub_self, Dc.gd] at hS
        subst hS
        have hc0 := HD.out.blk.cell 0
        obtain ⟨a3, c3, rfl, _⟩ := own_form HD.out.own
        clear HS
        go_wp2_with fail
        go_ret3
        exact ⟨_, rfl, HD.out.own, HW.out⟩
  · rw [if_pos h1]
    generalize (Dc.gl b n).1 = many at *
    generalize (Dc.gl b n).2.1 = s0 at *
    generalize (Dc.gl b n).2.2 = er at *
    have h4 : ((er : Int) != 0) = true := by simpa using h1
    clear hb h1
    go_enter Try.func36, Try.ntmps36
    go_wp2_with fail
    refine HG.out.mono ?_
    rintro e w' ⟨rfl, rfl⟩
    go_wp2_with fail
    go_ret3
    exact GtPost.err er (Below.refl _ _)
set_option maxHeartbeats 8000000 in
theorem getNums (v dv : Value) (b : List Nat) (D : List ByteArray) (n : Nat) (w : World) (hb : Rd w w.heap.size v b) (hd : RdT w w.heap.size dv D) (hn : n ≤ 1048576) :
    Calls Try.prog 37 #[v, dv, .int .i64 (n : Nat)] w (GtPost w (Dc.gn b D n 0 [] 0)) := by
  have HR := Lib.hid hb
  have hbl := hb.len
  unfold maxLen at hbl
  obtain ⟨a, c, rfl, _⟩ := id hb
  obtain ⟨a3, c3, rfl, _⟩ := Gn.Rd.form hd
  obtain ⟨R, hR⟩ : ∃ R, Dc.gn b D n 0 [] 0 = R := ⟨_, rfl⟩
  have HS0 : Hid (Dc.gn b D (n - 0) 0 [] 0 = R) := Lib.hid hR
  rw [hR]
  have HW2 := Lib.hid (up_new w (.cells #[.slice a3 D.length c3, .int .i64 0, .slice none 0 0] 59))
  have HL0 : Hid (LV (w.alloc (.cells #[.slice a3 D.length c3, .int .i64 0, .slice none 0 0] 59)) w.heap.size w.heap.size (.slice a3 D.length c3) D 0 (.slice none 0 0) []) :=
    Lib.hid ⟨Blk.new w 59 #[.slice a3 D.length c3, .int .i64 0, .slice none 0 0], Gn.Rd.below hd (up_new _ _) (Nat.le_refl _), Gn.Own.nil _ _, Nat.le_refl _⟩
  clear hb hd hR
  go_enter Try.func37, Try.ntmps37
  go_wp2_with fail
  obtain ⟨q, hq⟩ : ∃ q, w.heap.size = q := ⟨_, rfl⟩
  have hq2 : q ≤ (w.alloc (.cells #[.slice a3 D.length c3, .int .i64 0, .slice none 0 0] 59)).heap.size := by rw [World.size_alloc]; omega
  have HQ := Lib.hid hq
  rw [hq] at HL0 ⊢
  generalize w.alloc (.cells #[.slice a3 D.length c3, .int .i64 0, .slice none 0 0] 59) = w2 at *
  clear hq
  go_loopw [7, 16] (fun sv i wr => ∃ (k s u : Nat) (tv : Value) (T : List ByteArray), k ≤ n ∧ s ≤ b.length ∧ sv = .int .i64 (s : Nat) ∧ i = .int .i64 (k : Nat) ∧ Hid (u ≤ k ∧ T.length = k) ∧ Hid (Dc.gn b D (n - k) u T s = R) ∧ Hid (LV wr q q (.slice a3 D.length c3) D u tv T) ∧ Hid (Below w.heap.size w wr) ∧ q ≤ wr.heap.size) (fun _ i _ => n - (intOf i).toNat)
  case atStart => exact ⟨0, 0, 0, _, [], by omega, by omega, rfl, rfl, Lib.hid ⟨by omega, rfl⟩, HS0, HL0, HW2, hq2⟩
  case round =>
    clear HS0 HL0 HW2 hq2
    obtain ⟨k, s, u, tv, T, hk, hs, rfl, rfl, HL, HS, HV, HW, hqx⟩ := hrel
    by_cases hlt : k < n
    · have hlt1 : (k : Int) < n := by omega
      have hsi : (s : Int) ≤ b.length := by omega
      obtain ⟨cu, hcu, hru⟩ := cut_from w w.heap.size a b c s HR.out hs
      have HT := Lib.hid (get cu (b.drop s) wr (hru.later (Nat.le_refl _) HW.out))
      have hS := HS.out
      rw [show n - k = (n - (k + 1)) + 1 by omega] at hS
      by_cases h2 : (Leb.dec (b.drop s)).2.2 = 0
      · have hgs := (Leb.enc_dec (b.drop s) (Leb.dec (b.drop s)).1 (Leb.dec (b.drop s)).2.1 (Dc.mem_drop' HR.out.bytes s) (by rw [← h2])).2.1
        rw [List.length_drop] at hgs
        by_cases h3 : (Leb.dec (b.drop s)).1 < D.length ∧ (Leb.dec (b.drop s)).1 ≤ u
        · obtain ⟨y, hy⟩ : ∃ y, D[(Leb.dec (b.drop s)).1]? = some y := ⟨_, List.getElem?_eq_getElem h3.1⟩
          rw [Dc.gn_ok b D _ u T s h2 y hy h3.2] at hS
          have HS2 := Lib.hid hS
          have HA := Lib.hid (add_yes wr q q u _ tv D T _ y HV.out hqx hy h3.2 (by have := HL.out; omega) (by have := HL.out; omega))
          rw [h2] at HT
          generalize (Leb.dec (b.drop s)).1 = x at *
          generalize (Leb.dec (b.drop s)).2.1 = z at *
          have HL2 : Hid (max u (x + 1) ≤ k + 1 ∧ (T ++ [y]).length = k + 1) := Lib.hid ⟨by have := HL.out; omega, by simp [HL.out.2]⟩
          have hsz : (s : Int) + (z : Int) ≤ b.length := by omega
          clear h2 h3 HS hS hru HL hy
          go_wp2_with fail
          refine HT.out.mono ?_
          rintro e w' ⟨rfl, rfl⟩
          go_wp2_with fail
          refine HA.out.mono ?_
          rintro e w3 ⟨rfl, tv2, hv2, ht⟩
          have HW3 := Lib.hid (HW.out.trans (ht.below HW.out.size (fun i hi => by rw [HQ.out]; exact HV.out.low i hi)))
          have hq3 := Nat.le_trans hqx ht.size
          have HV3 := Lib.hid hv2
          clear HA hv2 ht HW HV
          go_wp2_with fail
          go_roundw
          case rel => exact ⟨k + 1, s + z, _, _, _, by omega, by omega, by go_num, by go_num, HL2, HS2, HV3, HW3, hq3⟩
          case measure => simp [intOf]; omega
        · rw [Dc.gn_bad b D _ u T s h2 h3] at hS
          subst hS
          have HA := Lib.hid (add_no wr q q u _ tv D T _ HV.out h3 (by have := HL.out; omega))
          rw [h2] at HT
          generalize (Leb.dec (b.drop s)).1 = x at *
          generalize (Leb.dec (b.drop s)).2.1 = z at *
          clear h2 h3 HS hru HL
          go_wp2_with fail
          refine HT.out.mono ?_
          rintro e w' ⟨rfl, rfl⟩
          go_wp2_with fail
          refine HA.out.mono ?_
          rintro e w3 ⟨rfl, rfl⟩
          go_wp2_with fail
          try rw [Exit.noGoto_ret]
          go_ret3
          exact GtPost.err 150 HW.out
      · rw [Dc.gn_err b D _ u T s h2] at hS
        subst hS
        generalize (Leb.dec (b.drop s)).1 = x at *
        generalize (Leb.dec (b.drop s)).2.1 = z at *
        generalize (Leb.dec (b.drop s)).2.2 = er at *
        have h4 : ((er : Int) != 0) = true := by simpa using h2
        clear h2 HS hru HL
        go_wp2_with fail
        refine HT.out.mono ?_
        rintro e w' ⟨rfl, rfl⟩
        go_wp2_with fail
        try rw [Exit.noGoto_ret]
        go_ret3
        exact GtPost.err er HW.out
    · obtain rfl : k = n := by omega
      have hlt1 : ¬ (k : Int) < (k : Nat) := by omega
      have hS := HS.out
      rw [Nat.sub_self, Dc.gn] at hS
      by_cases hu : u < D.length
      · rw [if_pos hu] at hS
        subst hS
        have HA := Lib.hid (whole_no wr q q u _ tv D T HV.out hu)
        clear HS hu
        go_wp2_with fail
        refine HA.out.mono ?_
        rintro e w3 ⟨rfl, hb3⟩
        have HW3 := Lib.hid (HW.out.trans (hb3.mono HW.out.size))
        clear hb3
        go_wp2_with fail
        go_ret3
        exact GtPost.err 150 HW3.out
      · rw [if_neg hu] at hS
        subst hS
        have HA := Lib.hid (whole_yes wr q q u _ tv D T HV.out hu)
        clear HS hu
        go_wp2_with fail
        refine HA.out.mono ?_
        rintro e w3 ⟨rfl, hb3⟩
        have HW3 := Lib.hid (HW.out.trans (hb3.mono HW.out.size))
        have HT3 := Lib.hid (Gn.Own.lower (HV.out.own.later hb3) (show w.heap.size ≤ q by rw [HQ.out]; exact Nat.le_refl _))
        clear hb3
        go_wp2_with fail
        go_ret3
        exact ⟨_, rfl, HT3.out, HW3.out⟩
set_option maxHeartbeats 8000000 in
theorem getL (v : Value) (b : List Nat) (n most : Int) (w : World) (hb : Rd w w.heap.size v b) (n0 : -9223372036854775808 ≤ n) (n1 : n ≤ 9223372036854775807) (m0 : -9223372036854775808 ≤ most) (m1 : most ≤ 9223372036854775807) :
    Calls Try.prog 24 #[v, .int .i64 n, .int .i64 most] w (GtPost w (Dc.get b n most)) := by
  unfold Dc.get
  by_cases h0 : n < 0 ∨ 1048576 < n
  · rw [if_pos h0]
    clear hb
    rcases h0 with h0 | h0
    · go_enter Try.func24, Try.ntmps24
      go_wp2_with fail
      go_ret3
      exact GtPost.err 6 (Below.refl _ _)
    · have h2 : ¬ n < 0 := by omega
      go_enter Try.func24, Try.ntmps24
      go_wp2_with fail
      go_ret3
      exact GtPost.err 6 (Below.refl _ _)
  · rw [if_neg h0]
    obtain ⟨m, rfl⟩ := Int.eq_ofNat_of_zero_le (a := n) (by omega)
    have g1 : ¬ (m : Int) < 0 := by omega
    have g2 : ¬ (1048576 : Int) < (m : Int) := by omega
    have HD := Lib.hid (getDic v b m most w hb (by omega) (by omega) m0 m1)
    obtain ⟨x, hx⟩ : ∃ x, gdP b m most = x := ⟨_, rfl⟩
    rw [hx] at HD
    unfold gdP at hx
    by_cases h1 : (Dc.gl b m).2.2 = 0
    · rw [if_neg (by simp [h1])] at hx ⊢
      by_cases h2 : (Dc.gd b most (Dc.gl b m).1 [] (Dc.gl b m).2.1).2.2 = 0
      · rw [if_neg (by simp [h2])]
        obtain ⟨ds, -, -, -, -, -, hsz⟩ := Dc.gd_good b most hb.bytes (Dc.gl b m).1 [] (Dc.gl b m).2.1 (Dc.gl_size b m hb.bytes) h2 Dc.Once.nil
        rw [hx] at h2 hsz ⊢
        obtain ⟨D, s, e0⟩ := x
        simp only at h2 hsz ⊢
        subst h2
        have HR := Lib.hid hb
        have hbl := hb.len
        unfold maxLen at hbl
        obtain ⟨a, c, rfl, _⟩ := id hb
        obtain ⟨cu, hcu, hru⟩ := cut_from w w.heap.size a b c s hb hsz
        have HRU := Lib.hid hru
        have hsi : (s : Int) ≤ b.length := by omega
        have hshift := gn_drop b D s m 0 [] 0
        rw [Nat.add_zero] at hshift
        have hmn : (m : Int).toNat = m := Int.toNat_natCast m
        rw [hmn, hshift]
        obtain ⟨y, hy⟩ : ∃ y, Dc.gn (b.drop s) D m 0 [] 0 = y := ⟨_, rfl⟩
        have hgs : y.2.2 = 0 → s + y.2.1 ≤ b.length := by
          intro h
          obtain ⟨N, _, _, _, _, h5⟩ := Dc.gn_good (b.drop s) D (Dc.mem_drop' hb.bytes s) m 0 [] 0 (Nat.zero_le _) (Nat.zero_le _) (by rw [hy]; exact h)
          rw [hy, List.length_drop] at h5
          omega
        have HE := Lib.hid (Dc.gn_none (b.drop s) D m 0 [] 0)
        rw [hy] at HE
        have HN := Lib.hid (fun dv w1 h1 h2 => getNums cu dv (b.drop s) D m w1 h1 h2 (by omega))
        rw [hy] at HN ⊢
        obtain ⟨Z, hZ⟩ : ∃ Z, (if y.2.2 = 0 then (y.1, s + y.2.1, 0) else y) = Z := ⟨_, rfl⟩
        rw [hZ]
        have HZ := Lib.hid hZ
        clear hb hx h1 hru hshift hy hmn h0 hZ
        go_enter Try.func24, Try.ntmps24
        go_wp2_with fail
        refine HD.out.mono ?_
        rintro e w1 ⟨dv, rfl, ho1, hb1⟩
        have HB1 := Lib.hid hb1
        have HN1 := Lib.hid (HN.out dv w1 (HRU.out.later (Nat.le_refl _) hb1) (RdT.of ho1))
        clear ho1 hb1 HN HD
        go_wp2_with fail
        refine HN1.out.mono ?_
        rintro e w2 ⟨lv, rfl, ho2, hb2⟩
        have HB2 := Lib.hid (HB1.out.trans (hb2.mono HB1.out.size))
        have HO2 := Lib.hid (Gn.Own.lower ho2 HB1.out.size)
        obtain ⟨T, z, er⟩ := y
        simp only at hgs HO2 HE HZ
        clear ho2 hb2 HN1
        by_cases h3 : er = 0
        · subst h3
          have hz := hgs rfl
          have hz2 : (s : Int) + (z : Int) ≤ b.length := by omega
          have hZ := HZ.out
          rw [if_pos rfl] at hZ
          subst hZ
          clear hgs HZ
          go_wp2_with fail
          go_ret3
          exact ⟨lv, by simp, HO2.out, HB2.out⟩
        · have hZ := HZ.out
          rw [if_neg h3] at hZ
          subst hZ
          clear HZ
          have h4 : ((er : Int) != 0) = true := by simpa using h3
          obtain ⟨rfl, rfl⟩ : T = [] ∧ z = 0 := HE.out h3
          clear hgs
          go_wp2_with fail
          go_ret3
          exact GtPost.err er HB2.out
      · rw [if_pos h2]
        rw [hx] at h2 ⊢
        obtain ⟨D, s, er⟩ := x
        simp only at h2 ⊢
        have h4 : ((er : Int) != 0) = true := by simpa using h2
        clear hb hx h1 h2
        go_enter Try.func24, Try.ntmps24
        go_wp2_with fail
        refine HD.out.mono ?_
        rintro e w1 ⟨dv, rfl, ho1, hb1⟩
        go_wp2_with fail
        go_ret3
        exact GtPost.err er hb1
    · rw [if_pos h1] at hx ⊢
      generalize (Dc.gl b m).2.2 = er at *
      subst hx
      have h4 : ((er : Int) != 0) = true := by simpa using h1
      clear hb h1
      go_enter Try.func24, Try.ntmps24
      go_wp2_with fail
      refine HD.out.mono ?_
      rintro e w1 ⟨dv, rfl, ho1, hb1⟩
      go_wp2_with fail
      go_ret3
      exact GtPost.err er hb1
end Go.Proofs.Ytenfjmdajlhfoaa
