/- The reference's Get. -/
import Derived.Test.YtenfjmdajlhfoaaDcS
namespace Go.Proofs.Ytenfjmdajlhfoaa
open Go.RowKit
set_option linter.unusedVariables false
set_option maxRecDepth 100000

theorem natAdd (a b : Nat) : ((a + b : Nat) : Int) = (a : Int) + (b : Int) := by omega
set_option maxHeartbeats 16000000 in
theorem rgetL (v : Value) (b : List Nat) (n most : Int) (w : World) (hb : Rd w w.heap.size v b) (n0 : -9223372036854775808 ≤ n) (n1 : n ≤ 9223372036854775807) (m0 : -9223372036854775808 ≤ most) (m1 : most ≤ 9223372036854775807) :
    Calls Try.prog 25 #[v, .int .i64 n, .int .i64 most] w (GtPost w (Dc.get b n most)) := by
  unfold Dc.get
  by_cases h0 : n < 0 ∨ 1048576 < n
  · rw [if_pos h0]
    clear hb
    rcases h0 with h0 | h0
    · go_enter Try.func25, Try.ntmps25
      go_wp2_with fail
      go_ret3
      exact GtPost.err 6 (Below.refl _ _)
    · have h2 : ¬ n < 0 := by omega
      go_enter Try.func25, Try.ntmps25
      go_wp2_with fail
      go_ret3
      exact GtPost.err 6 (Below.refl _ _)
  · rw [if_neg h0]
    obtain ⟨m, rfl⟩ := Int.eq_ofNat_of_zero_le (a := n) (by omega)
    have g1 : ¬ (m : Int) < 0 := by omega
    have g2 : ¬ (1048576 : Int) < (m : Int) := by omega
    have hml : m ≤ 1048576 := by omega
    have hroom := dec_room b hb.bytes
    have HG := Lib.hid (rget v b w hb)
    have hwm := wrap_pos m (by omega)
    by_cases h1 : (Leb.dec b).2.2 = 0
    · by_cases h3 : (m : Int) < ((Leb.dec b).1 : Int)
      · rw [Dc.gl_lim b m h1 (.inr h3)]
        rw [h1] at HG
        generalize (Leb.dec b).1 = many at *
        generalize (Leb.dec b).2.1 = k at *
        clear hb h1 h0
        go_enter Try.func25, Try.ntmps25
        go_wp2_with fail
        refine HG.out.mono ?_
        rintro e w' ⟨rfl, rfl⟩
        go_wp2_with fail
        go_ret3
        exact GtPost.err 5 (Below.refl _ _)
      · have hgl := Dc.gl_ok b m h1 (by omega)
        have hsz0 := (Dc.gl_good b m hb.bytes (by rw [hgl])).1
        rw [hgl] at hsz0 ⊢
        simp only [ne_eq, not_true_eq_false, if_false] at hsz0 ⊢
        rw [h1] at HG
        generalize (Leb.dec b).1 = many at *
        generalize (Leb.dec b).2.1 = s0 at *
        obtain ⟨R1, hR1⟩ : ∃ R1, Dc.gd b most many [] s0 = R1 := ⟨_, rfl⟩
        rw [hR1]
        obtain ⟨Z, hZ⟩ : ∃ Z, (if ¬ R1.2.2 = 0 then ([], 0, R1.2.2) else Dc.gn b R1.1 (m : Int).toNat 0 [] R1.2.1) = Z := ⟨_, rfl⟩
        rw [hZ]
        rw [Int.toNat_natCast] at hZ
        have HZ := Lib.hid hZ
        have HS0 : Hid (Dc.gd b most (many - 0) [] s0 = R1) := Lib.hid hR1
        have HR := Lib.hid hb
        have hbl := hb.len
        unfold maxLen at hbl
        obtain ⟨a, c, rfl, _⟩ := id hb
        have hmm : many ≤ 1048576 := by omega
        have hb42 : decide (m < many) = false := decide_eq_false (by omega)
        have hn42 : ¬ m < many := by omega
        clear hb h1 h0 hgl hZ hR1 hroom
        go_enter Try.func25, Try.ntmps25
        go_wp2_with fail
        refine HG.out.mono ?_
        rintro e w' ⟨rfl, rfl⟩
        clear HG
        go_wp2_with fail
        go_loopw [10, 12, 13] (fun sv dv i wr => ∃ (k s : Nat) (d : List ByteArray), k ≤ many ∧ s ≤ b.length ∧ sv = .int .i64 (s : Nat) ∧ i = .int .i64 (k : Nat) ∧ Hid (d.length ≤ k) ∧ Hid (Dc.gd b most (many - k) d s = R1) ∧ Hid (OwnT wr w.heap.size dv d) ∧ Hid (Below w.heap.size w wr)) (fun _ _ i _ => many - (intOf i).toNat)
        case atStart => exact ⟨0, s0, [], by omega, hsz0, rfl, rfl, Lib.hid (by simp), HS0, Lib.hid (Gn.Own.nil _ _), Lib.hid (Below.refl _ _)⟩
        case round =>
          clear HS0
          obtain ⟨k, s, d, hk, hs, rfl, rfl, HL, HS, HD, HW⟩ := hrel
          by_cases hlt : k < many
          · have hlt1 : (k : Int) < many := by omega
            have hsi : (s : Int) ≤ b.length := by omega
            obtain ⟨u, hu, hru⟩ := cut_from w w.heap.size a b c s HR.out hs
            have HT := Lib.hid (rget u (b.drop s) wr (hru.later (Nat.le_refl _) HW.out))
            have hS := HS.out
            rw [show many - k = (many - (k + 1)) + 1 by omega] at hS
            have hbd := Dc.mem_drop' HR.out.bytes s
            have hroom := dec_room (b.drop s) hbd
            have hdl : (b.drop s).length = b.length - s := List.length_drop
            by_cases h2 : (Leb.dec (b.drop s)).2.2 = 0
            · have hgz := (Leb.enc_dec (b.drop s) (Leb.dec (b.drop s)).1 (Leb.dec (b.drop s)).2.1 hbd (by rw [← h2])).2.1
              rw [hdl] at hgz
              by_cases h4 : most < 0 ∨ most < ((Leb.dec (b.drop s)).1 : Int)
              · have e1 := Dc.gl_lim (b.drop s) most h2 h4
                have e2 := Dc.gt_err (b.drop s) most (by rw [e1]; simp)
                rw [e1] at e2
                rw [Dc.gd_err b most _ d s (by rw [e2]; simp), e2] at hS
                subst hS
                have hZ := HZ.out
                simp at hZ
                subst hZ
                rw [h2] at HT
                clear e1 e2 h2 hru hdl hbd HS
                generalize (Leb.dec (b.drop s)).1 = x at *
                generalize (Leb.dec (b.drop s)).2.1 = z at *
                have hsz : (s : Int) + (z : Int) ≤ b.length := by omega
                by_cases h5 : most < 0
                · go_wp2_with fail
                  refine HT.out.mono ?_
                  rintro e w' ⟨rfl, rfl⟩
                  go_wp2_with fail
                  try rw [Exit.noGoto_ret]
                  go_ret3
                  exact GtPost.err 5 HW.out
                · obtain ⟨q, rfl⟩ := Int.eq_ofNat_of_zero_le (a := most) (by omega)
                  have h6 : (q : Int) < (x : Int) := by omega
                  have hwq := wrap_pos q (by omega)
                  clear h4
                  go_wp2_with fail
                  refine HT.out.mono ?_
                  rintro e w' ⟨rfl, rfl⟩
                  go_wp2_with fail
                  try rw [Exit.noGoto_ret]
                  go_ret3
                  exact GtPost.err 5 HW.out
              · have e1 := Dc.gl_ok (b.drop s) most h2 h4
                obtain ⟨q, rfl⟩ := Int.eq_ofNat_of_zero_le (a := most) (by omega)
                have h5 : ¬ (q : Int) < 0 := by omega
                have h6 : ¬ (q : Int) < ((Leb.dec (b.drop s)).1 : Int) := by omega
                have hwq := wrap_pos q (by omega)
                have hx1 : (Leb.dec (b.drop s)).1 ≤ 9223372036854775807 := by omega
                by_cases h7 : (b.drop s).length < (Leb.dec (b.drop s)).2.1 + (Leb.dec (b.drop s)).1
                · have e2 := Dc.gt_cut (b.drop s) (q : Nat) (by rw [e1]) (by rw [e1]; exact h7)
                  rw [Dc.gd_err b (q : Nat) _ d s (by rw [e2]; simp), e2] at hS
                  subst hS
                  have hZ := HZ.out
                  simp at hZ
                  subst hZ
                  rw [h2] at HT
                  rw [hdl] at h7
                  clear e1 e2 h2 hru hdl hbd HS h4
                  generalize (Leb.dec (b.drop s)).1 = x at *
                  generalize (Leb.dec (b.drop s)).2.1 = z at *
                  have hsz : (s : Int) + (z : Int) ≤ b.length := by omega
                  obtain ⟨L, hL⟩ : ∃ L, b.length - (s + z) = L := ⟨_, rfl⟩
                  have hL1 : (b.length : Int) - ((s : Int) + (z : Int)) = (L : Int) := by omega
                  have hL2 : (L : Int) < (x : Int) := by omega
                  have hwL := wrap_pos L (by omega)
                  have hL3 : L ≤ 9223372036854775807 := by omega
                  clear hL h7
                  go_wp2_with fail
                  refine HT.out.mono ?_
                  rintro e w' ⟨rfl, rfl⟩
                  go_wp2_with fail
                  try rw [Exit.noGoto_ret]
                  go_ret3
                  exact GtPost.err 3 HW.out
                · have e2 := Dc.gt_ok (b.drop s) (q : Nat) (by rw [e1]) (by rw [e1]; exact h7)
                  rw [e1] at e2
                  simp only at e2
                  rw [h2] at HT
                  rw [hdl] at h7
                  have e3 : (Dc.gt (b.drop s) (q : Nat)).2.2 = 0 := by rw [e2]
                  obtain ⟨z, hz⟩ : ∃ z, (Leb.dec (b.drop s)).2.1 = z := ⟨_, rfl⟩
                  obtain ⟨x, hx⟩ : ∃ x, (Leb.dec (b.drop s)).1 = x := ⟨_, rfl⟩
                  rw [hz, hx] at e2 HT
                  rw [hz] at h7 hgz
                  rw [hx] at h7 h6 hx1 hroom
                  have hsz : (s : Int) + (z : Int) ≤ b.length := by omega
                  obtain ⟨L, hL⟩ : ∃ L, b.length - (s + z) = L := ⟨_, rfl⟩
                  have hL1 : (b.length : Int) - ((s : Int) + (z : Int)) = (L : Int) := by omega
                  have hL2 : ¬ (L : Int) < (x : Int) := by omega
                  have hwL := wrap_pos L (by omega)
                  have hL3 : L ≤ 9223372036854775807 := by omega
                  have hszx : (s : Int) + (z : Int) + (x : Int) ≤ b.length := by omega
                  obtain ⟨u2, hu2, hru2⟩ := cut_mid wr w.heap.size a b c (s + z) (s + z + x) (HR.out.below HW.out (Nat.le_refl _)) (by omega) (by omega)
                  simp only [natAdd] at hu2
                  have hcv := fun w' (h : Below w.heap.size wr w') => run_str w' _ _ _ (hru2.below h (Nat.le_refl _))
                  have hcv := hcv wr (Below.refl _ _)
                  have e4 : (b.take (s + z + x)).drop (s + z) = (Dc.gt (b.drop s) (q : Nat)).1 := by rw [e2, List.drop_take, Nat.add_sub_cancel_left, List.drop_drop]
                  have e5 : (Dc.gt (b.drop s) (q : Nat)).2.1 = z + x := by rw [e2]
                  rw [e4] at hcv
                  by_cases h8 : Dc.idx d (str (Dc.gt (b.drop s) (q : Nat)).1) < d.length
                  · rw [Dc.gd_dup b (q : Nat) _ d s e3 h8] at hS
                    subst hS
                    have hZ := HZ.out
                    simp at hZ
                    subst hZ
                    have HP := Lib.hid (rplace _ d _ wr (RdT.of HD.out) _ rfl : Calls _ _ #[_, .string (str (Dc.gt (b.drop s) (q : Nat)).1)] _ _)
                    unfold posI at HP
                    rw [if_pos h8] at HP
                    generalize str (Dc.gt (b.drop s) (q : Nat)).1 = y at *
                    generalize Dc.idx d y = j at *
                    clear e1 e2 e3 e4 e5 h2 hru hru2 hdl hbd HS h4 hL h7 hz hx
                    go_wp2_with fail
                    refine HT.out.mono ?_
                    rintro e w' ⟨rfl, rfl⟩
                    go_wp2_with fail
                    refine HP.out.mono ?_
                    rintro e w3 ⟨rfl, hb3⟩
                    have HW3 := Lib.hid (HW.out.trans (hb3.mono HW.out.size))
                    have hj : (0 : Int) ≤ (j : Int) := by omega
                    clear HP hb3 HW HD HT
                    go_wp2_with fail
                    try rw [Exit.noGoto_ret]
                    go_ret3
                    exact GtPost.err 150 HW3.out
                  · rw [Dc.gd_ok b (q : Nat) _ d s e3 h8, e5] at hS
                    have HS2 := Lib.hid hS
                    have HP := Lib.hid (rplace _ d _ wr (RdT.of HD.out) _ rfl : Calls _ _ #[_, .string (str (Dc.gt (b.drop s) (q : Nat)).1)] _ _)
                    unfold posI at HP
                    rw [if_neg h8] at HP
                    generalize str (Dc.gt (b.drop s) (q : Nat)).1 = y at *
                    have HL2 : Hid ((d ++ [y]).length ≤ k + 1) := Lib.hid (by simp; exact HL.out)
                    have hdl2 : d.length ≤ 1048576 := by have := HL.out; omega
                    clear e1 e2 e3 e4 e5 h2 hru hru2 hdl hbd HS h4 hL h7 hz hx hS h8
                    go_wp2_with fail
                    refine HT.out.mono ?_
                    rintro e w' ⟨rfl, rfl⟩
                    go_wp2_with fail
                    refine HP.out.mono ?_
                    rintro e w3 ⟨rfl, hb3⟩
                    have HW3 := Lib.hid (HW.out.trans (hb3.mono HW.out.size))
                    have HD3 := Lib.hid (HD.out.later hb3)
                    have hid3 := rdTx_one w3 y
                    clear HP hb3 HW HD HT
                    go_wp2_with (at_builtin
                                 refine Gn.wpList_app txL txY rfl (.tmp 94) (.tmp 96) rfl w.heap.size _ d rfl (HD3.out.later (up_new _ _)) _ [y] rfl hid3 (by simp; omega) (by rw [World.size_alloc]; have := HW3.out.size; omega) ?_
                                 intro v1 w4 ho4 hg4 hl4 hn4
                                 have HW4 := Lib.hid ((HW3.out.trans ((up_new w3 (.cells #[.string y] 9)).mono HW3.out.size)).trans (Gn.below_of_own (HD3.out.later (up_new w3 (.cells #[.string y] 9))) hg4 (by rw [World.size_alloc]; have := HW3.out.size; omega)))
                                 have HD4 := Lib.hid ho4
                                 clear ho4 hg4 hl4 hn4 hid3)
                    go_roundw
                    case rel => exact ⟨k + 1, s + (z + x), _, by omega, by omega, by go_num, by go_num, HL2, HS2, HD4, HW4⟩
                    case measure => simp [intOf]; omega
            · have e1 := Dc.gl_err (b.drop s) most h2
              have e2 := Dc.gt_err (b.drop s) most (by rw [e1]; exact h2)
              rw [e1] at e2
              rw [Dc.gd_err b most _ d s (by rw [e2]; exact h2), e2] at hS
              subst hS
              have hZ := HZ.out
              simp only [h2, not_false_eq_true, if_true] at hZ
              subst hZ
              generalize (Leb.dec (b.drop s)).1 = x at *
              generalize (Leb.dec (b.drop s)).2.1 = z at *
              generalize (Leb.dec (b.drop s)).2.2 = er at *
              have h4 : ((er : Int) != 0) = true := by simpa using h2
              clear e1 e2 h2 hru hdl hbd HS
              go_wp2_with fail
              refine HT.out.mono ?_
              rintro e w' ⟨rfl, rfl⟩
              go_wp2_with fail
              try rw [Exit.noGoto_ret]
              go_ret3
              exact GtPost.err er HW.out
          · obtain rfl : k = many := by omega
            have hlt1 : ¬ (k : Int) < (k : Nat) := by omega
            have hS := HS.out
            rw [Nat.sub_self, Dc.gd] at hS
            subst hS
            have hZ := HZ.out
            simp only [not_true_eq_false, if_false] at hZ
            have HN0 : Hid (Dc.gn b d (m - 0) 0 [] s = Z) := Lib.hid hZ
            have hdl := HL.out
            obtain ⟨a3, c3, rfl, _⟩ := own_form HD.out
            have HRD := Lib.hid (RdT.of HD.out)
            have HW1 := Lib.hid HW.out
            have hdm : d.length ≤ 1048576 := by omega
            have hwd := wrap_pos d.length (by omega)
            have hB0 := HW.out.size
            clear hZ HZ HS
            rename World => W0
            go_wp2_with fail
            go_loopw [10, 18, 19, 20] (fun sv tv uv i wx => ∃ (k s u : Nat) (T : List ByteArray), k ≤ m ∧ s ≤ b.length ∧ sv = .int .i64 (s : Nat) ∧ uv = .int .i64 (u : Nat) ∧ i = .int .i64 (k : Nat) ∧ Hid (u ≤ k ∧ T.length = k) ∧ Hid (Dc.gn b d (m - k) u T s = Z) ∧ Hid (OwnT wx W0.heap.size tv T) ∧ Hid (Below W0.heap.size W0 wx)) (fun _ _ _ i _ => m - (intOf i).toNat)
            case atStart => exact ⟨0, s, 0, [], by omega, hs, rfl, rfl, rfl, Lib.hid ⟨by omega, rfl⟩, HN0, Lib.hid (Gn.Own.nil _ _), Lib.hid (Below.refl _ _)⟩
            case round =>
              clear HN0 hs
              obtain ⟨j, s2, u, T, hj, hs, rfl, rfl, rfl, HL, HS, HT, HX⟩ := hrel
              have HXB := Lib.hid (HW.out.trans (HX.out.mono hB0))
              by_cases hlt : j < m
              · have hlt1 : (j : Int) < m := by omega
                have hsi : (s2 : Int) ≤ b.length := by omega
                obtain ⟨cu, hcu, hru⟩ := cut_from w w.heap.size a b c s2 HR.out hs
                have HG := Lib.hid (rget cu (b.drop s2) wr (hru.later (Nat.le_refl _) HXB.out))
                have hS := HS.out
                rw [show m - j = (m - (j + 1)) + 1 by omega] at hS
                have hbd := Dc.mem_drop' HR.out.bytes s2
                have hroom := dec_room (b.drop s2) hbd
                have hdl2 : (b.drop s2).length = b.length - s2 := List.length_drop
                have hul : u ≤ 1048576 := by have := HL.out; omega
                have hwu := wrap_pos u (by omega)
                by_cases h2 : (Leb.dec (b.drop s2)).2.2 = 0
                · have hgz := (Leb.enc_dec (b.drop s2) (Leb.dec (b.drop s2)).1 (Leb.dec (b.drop s2)).2.1 hbd (by rw [← h2])).2.1
                  rw [hdl2] at hgz
                  by_cases h3 : (Leb.dec (b.drop s2)).1 < d.length ∧ (Leb.dec (b.drop s2)).1 ≤ u
                  · obtain ⟨y, hy⟩ : ∃ y, d[(Leb.dec (b.drop s2)).1]? = some y := ⟨_, List.getElem?_eq_getElem h3.1⟩
                    rw [Dc.gn_ok b d _ u T s2 h2 y hy h3.2] at hS
                    have HS2 := Lib.hid hS
                    rw [h2] at HG
                    generalize (Leb.dec (b.drop s2)).1 = x at *
                    generalize (Leb.dec (b.drop s2)).2.1 = z at *
                    have HL2 : Hid (max u (x + 1) ≤ j + 1 ∧ (T ++ [y]).length = j + 1) := Lib.hid ⟨by have := HL.out; omega, by simp [HL.out.2]⟩
                    have hsz : (s2 : Int) + (z : Int) ≤ b.length := by omega
                    have hTl : T.length ≤ 1048576 := by have := HL.out; omega
                    obtain ⟨bb, off, rfl, p0⟩ := rdT_cell HRD.out HX.out hy
                    have h4 : ¬ (d.length : Int) ≤ (x : Int) := by omega
                    have h5 : ¬ (u : Int) < (x : Int) := by omega
                    have h6 : (x : Int) < d.length := by omega
                    have hmx : ((max u (x + 1) : Nat) : Int) = max (u : Int) ((x : Int) + 1) := by omega
                    have hid3 := rdTx_one wr y
                    clear h2 HS hS hru HL hy h3 hdl2 hbd
                    go_wp2_with fail
                    refine HG.out.mono ?_
                    rintro e w' ⟨rfl, rfl⟩
                    clear HG
                    go_wp2_with (at_builtin
                                 refine Gn.wpList_app txL txY rfl (.tmp 133) (.tmp 138) rfl W0.heap.size _ T rfl (HT.out.later (up_new _ _)) _ [y] rfl hid3 (by simp; omega) (by rw [World.size_alloc]; have := HX.out.size; omega) ?_
                                 intro v1 w4 ho4 hg4 hl4 hn4
                                 have HX4 := Lib.hid ((HX.out.trans ((up_new wr (.cells #[.string y] 9)).mono HX.out.size)).trans (Gn.below_of_own (HT.out.later (up_new wr (.cells #[.string y] 9))) hg4 (by rw [World.size_alloc]; have := HX.out.size; omega)))
                                 have HT4 := Lib.hid ho4
                                 clear ho4 hg4 hl4 hn4 hid3)
                    go_roundw
                    case rel => exact ⟨j + 1, s2 + z, _, _, by omega, by omega, by go_num, by (rw [hmx]), by go_num, HL2, HS2, HT4, HX4⟩
                    case measure => simp [intOf]; omega
                  · rw [Dc.gn_bad b d _ u T s2 h2 h3] at hS
                    subst hS
                    rw [h2] at HG
                    generalize (Leb.dec (b.drop s2)).1 = x at *
                    generalize (Leb.dec (b.drop s2)).2.1 = z at *
                    have hsz : (s2 : Int) + (z : Int) ≤ b.length := by omega
                    clear h2 HS hru HL hdl2 hbd
                    by_cases h4 : x < d.length
                    · have h5 : ¬ (d.length : Int) ≤ (x : Int) := by omega
                      have h6 : (u : Int) < (x : Int) := by omega
                      clear h3
                      go_wp2_with fail
                      refine HG.out.mono ?_
                      rintro e w' ⟨rfl, rfl⟩
                      go_wp2_with fail
                      try rw [Exit.noGoto_ret]
                      go_ret3
                      exact GtPost.err 150 HXB.out
                    · have h5 : (d.length : Int) ≤ (x : Int) := by omega
                      clear h3
                      go_wp2_with fail
                      refine HG.out.mono ?_
                      rintro e w' ⟨rfl, rfl⟩
                      go_wp2_with fail
                      try rw [Exit.noGoto_ret]
                      go_ret3
                      exact GtPost.err 150 HXB.out
                · rw [Dc.gn_err b d _ u T s2 h2] at hS
                  subst hS
                  generalize (Leb.dec (b.drop s2)).1 = x at *
                  generalize (Leb.dec (b.drop s2)).2.1 = z at *
                  generalize (Leb.dec (b.drop s2)).2.2 = er at *
                  have h4 : ((er : Int) != 0) = true := by simpa using h2
                  clear h2 HS hru HL hdl2 hbd
                  go_wp2_with fail
                  refine HG.out.mono ?_
                  rintro e w' ⟨rfl, rfl⟩
                  go_wp2_with fail
                  try rw [Exit.noGoto_ret]
                  go_ret3
                  exact GtPost.err er HXB.out
              · obtain rfl : j = m := by omega
                have hlt1 : ¬ (j : Int) < (j : Nat) := by omega
                have hS := HS.out
                rw [Nat.sub_self, Dc.gn] at hS
                by_cases hu : u < d.length
                · rw [if_pos hu] at hS
                  subst hS
                  have hu1 : (u : Int) < d.length := by omega
                  clear HS
                  go_wp2_with fail
                  go_ret3
                  exact GtPost.err 150 HXB.out
                · rw [if_neg hu] at hS
                  subst hS
                  have hu1 : ¬ (u : Int) < d.length := by omega
                  obtain ⟨at_, ct, rfl, _⟩ := own_form HT.out
                  clear HS
                  go_wp2_with fail
                  go_ret3
                  exact ⟨_, rfl, Gn.Own.lower HT.out hB0, HXB.out⟩
    · rw [Dc.gl_err b m h1]
      simp only [ne_eq, h1, not_false_eq_true, if_true]
      generalize (Leb.dec b).1 = many at *
      generalize (Leb.dec b).2.1 = k at *
      generalize (Leb.dec b).2.2 = er at *
      have h4 : ((er : Int) != 0) = true := by simpa using h1
      clear hb h1 h0
      go_enter Try.func25, Try.ntmps25
      go_wp2_with fail
      refine HG.out.mono ?_
      rintro e w' ⟨rfl, rfl⟩
      go_wp2_with fail
      go_ret3
      exact GtPost.err er (Below.refl _ _)
end Go.Proofs.Ytenfjmdajlhfoaa
