/- Several texts in one: RwFc, RwFr, RwKeyedW, RwOrderW, RwPicksW, RwUnkW. -/
import Derived.Test.YtfplogjdcndohaaGreatDoorRwX
import Derived.Deep.RegionHeld3
import Derived.Test.YtfplogjdcndohaaGreatDoorClFr
/- RowOrder's walk: Compare is an order of all rows. -/
namespace Go.Proofs.YtfplogjdcndohaaGreatDoor
open Go.RowKit Go.Sort
set_option linter.unusedVariables false
set_option maxRecDepth 100000

/-- A row that came in. -/
structure RowIn (w : World) (v : Value) (l : List Cl.C) : Prop where
  rd : RdC w w.heap.size v l
  ok : ∀ c ∈ l, Cl.I64 c.n ∧ c.s.size ≤ maxLen
theorem RowIn.sz {w : World} {v : Value} {l : List Cl.C} (h : RowIn w v l) : ∀ c ∈ l, c.s.size ≤ maxLen := fun c hc => (h.ok c hc).2
set_option maxHeartbeats 8000000 in
theorem rowOrder (av bv cv : Value) (a b c : List Cl.C) (w : World) (ha : RowIn w av a) (hb : RowIn w bv b) (hc : RowIn w cv c) (T : TA w) :
    Calls Tryz.prog 6 #[av, bv, cv] w fun e w' => e = .returned (.bool true) ∧ Below w.heap.size w w' := by
  have HA := Lib.hid ha
  have HB := Lib.hid hb
  have HC := Lib.hid hc
  have HT := Lib.hid (fun w1 (hb : Below w.heap.size w w1) => T.later hb)
  clear ha hb hc T
  go_enter Tryz.func6, Tryz.ntmps6
  go_wp2_with fail
  ((with_reducible refine (lCutR av a w HA.out.rd HA.out.sz).mono ?_); rintro e w1 ⟨v1, rfl, ho, b1⟩)
  have HA1 := Lib.hid (RdC.of ho)
  have HU1 := Lib.hid b1
  clear ho b1
  go_wp2_with fail
  ((with_reducible refine (lCutR bv b w1 (HB.out.rd.later HU1.out) HB.out.sz).mono ?_); rintro e w2 ⟨v2, rfl, ho, b2⟩)
  have HA2 := Lib.hid (HA1.out.later b2)
  have HB2 := Lib.hid (RdC.of ho)
  have HU2 := Lib.hid (up HU1.out b2)
  clear ho b2 HA1 HU1
  go_wp2_with fail
  ((with_reducible refine (lCutR cv c w2 (HC.out.rd.later HU2.out) HC.out.sz).mono ?_); rintro e w3 ⟨v3, rfl, ho, b3⟩)
  have HA3 := Lib.hid (HA2.out.later b3)
  have HB3 := Lib.hid (HB2.out.later b3)
  have HC3 := Lib.hid (RdC.of ho)
  have HU3 := Lib.hid (up HU2.out b3)
  have la := cutR_len a
  have lb := cutR_len b
  clear ho b3 HA2 HB2 HU2 HA HB HC
  generalize cutR a = a' at *
  generalize cutR b = b' at *
  generalize cutR c = c' at *
  have R1 := Rw.cmps_range a' b'
  have N1 := Rw.cmps_neg b' a'
  have Z1 := Rw.cmps_zero a' b'
  have R2 := Rw.cmps_range b' c'
  have R3 := Rw.cmps_range a' c'
  have T3 := Rw.cmps_trans a' b' c'
  have M0 := Lib.hid (fun w (h1 : RdC w w.heap.size v1 a') => rowCompare v1 v1 a' a' w h1 h1 (by omega) 0 ((Rw.cmps_zero a' a').2 rfl))
  have M1 := Lib.hid (fun w (h1 : RdC w w.heap.size v1 a') (h2 : RdC w w.heap.size v2 b') => rowCompare v1 v2 a' b' w h1 h2 (by omega) _ rfl)
  have M2 := Lib.hid (fun w (h1 : RdC w w.heap.size v1 a') (h2 : RdC w w.heap.size v2 b') => rowCompare v2 v1 b' a' w h2 h1 (by omega) _ rfl)
  have M3 := Lib.hid (fun w (h1 : RdC w w.heap.size v2 b') (h2 : RdC w w.heap.size v3 c') => rowCompare v2 v3 b' c' w h1 h2 (by omega) _ rfl)
  have M4 := Lib.hid (fun w (h1 : RdC w w.heap.size v1 a') (h2 : RdC w w.heap.size v3 c') => rowCompare v1 v3 a' c' w h1 h2 (by omega) _ rfl)
  have MS := Lib.hid (fun w (h1 : RdC w w.heap.size v1 a') (h2 : RdC w w.heap.size v2 b') => rowSame v1 v2 a' b' w h1 h2 (by omega) (decide (Rw.cmps a' b' = 0)) (by rw [decide_eq_true_eq]; exact Z1))
  rw [N1] at M2
  clear N1 Z1
  obtain ⟨r1, h1⟩ : ∃ r, Rw.cmps a' b' = r := ⟨_, rfl⟩
  obtain ⟨r2, h2⟩ : ∃ r, Rw.cmps b' c' = r := ⟨_, rfl⟩
  obtain ⟨r3, h3⟩ : ∃ r, Rw.cmps a' c' = r := ⟨_, rfl⟩
  rw [h1] at R1 M1 M2 T3 MS
  rw [h2] at R2 M3 T3
  rw [h3] at R3 M4 T3
  clear h1 h2 h3 la lb
  go_wp2_with fail
  ((with_reducible refine (M1.out _ HA3.out HB3.out).mono ?_); rintro e w4 ⟨rfl, b4⟩)
  have HA4 := Lib.hid (HA3.out.later b4)
  have HB4 := Lib.hid (HB3.out.later b4)
  have HC4 := Lib.hid (HC3.out.later b4)
  have HU4 := Lib.hid (up HU3.out b4)
  clear b4 HA3 HB3 HC3 HU3
  have R : r1 = 1 ∨ (r1 = -1 ∨ r1 = 0) ∧ (r2 = 1 ∨ (r2 = -1 ∨ r2 = 0) ∧ (r3 = -1 ∨ r3 = 0)) := by omega
  clear R1 R2 R3 T3
  rcases R with rfl | ⟨rfl | rfl, rfl | ⟨rfl | rfl, rfl | rfl⟩⟩
  all_goals
    simp at M2 MS
    go_wp2_with fail
    ((with_reducible refine (M2.out _ HA4.out HB4.out).mono ?_); rintro e w5 ⟨rfl, b5⟩)
    have HA5 := Lib.hid (HA4.out.later b5)
    have HB5 := Lib.hid (HB4.out.later b5)
    have HC5 := Lib.hid (HC4.out.later b5)
    have HU5 := Lib.hid (up HU4.out b5)
    clear b5 HA4 HB4 HC4 HU4
    go_wp2_with fail
    ((with_reducible refine (MS.out _ HA5.out HB5.out).mono ?_); rintro e w6 ⟨rfl, b6⟩)
    have HA6 := Lib.hid (HA5.out.later b6)
    have HB6 := Lib.hid (HB5.out.later b6)
    have HC6 := Lib.hid (HC5.out.later b6)
    have HU6 := Lib.hid (up HU5.out b6)
    clear b6 HA5 HB5 HC5 HU5
    go_wp2_with fail
    ((with_reducible refine (M0.out _ HA6.out).mono ?_); rintro e w7 ⟨rfl, b7⟩)
    have HA7 := Lib.hid (HA6.out.later b7)
    have HB7 := Lib.hid (HB6.out.later b7)
    have HC7 := Lib.hid (HC6.out.later b7)
    have HU7 := Lib.hid (up HU6.out b7)
    clear b7 HA6 HB6 HC6 HU6
    go_wp2_with fail
    first
    | ((with_reducible refine (works _ (HT.out _ HU7.out)).mono ?_); rintro e wz ⟨rfl, bz⟩; have HZ := Lib.hid (up HU7.out bz); clear bz; go_wp2_with fail; go_ret; exact ⟨rfl, HZ.out⟩)
    | ((with_reducible refine (M3.out _ HB7.out HC7.out).mono ?_); rintro e w8 ⟨rfl, b8⟩; have HU8 := Lib.hid (up HU7.out b8); have HA8 := Lib.hid (HA7.out.later b8); have HC8 := Lib.hid (HC7.out.later b8); clear b8; go_wp2_with fail; first | ((with_reducible refine (works _ (HT.out _ HU8.out)).mono ?_); rintro e wz ⟨rfl, bz⟩; have HZ := Lib.hid (up HU8.out bz); clear bz; go_wp2_with fail; go_ret; exact ⟨rfl, HZ.out⟩) | ((with_reducible refine (M4.out _ HA8.out HC8.out).mono ?_); rintro e w9 ⟨rfl, b9⟩; have HU9 := Lib.hid (up HU8.out b9); clear b9; go_wp2_with fail; (with_reducible refine (works _ (HT.out _ HU9.out)).mono ?_); rintro e wz ⟨rfl, bz⟩; have HZ := Lib.hid (up HU9.out bz); clear bz; go_wp2_with fail; go_ret; exact ⟨rfl, HZ.out⟩))
end Go.Proofs.YtfplogjdcndohaaGreatDoor

/- RowPicks' walk: to pick places, and of what is picked others. -/
namespace Go.Proofs.YtfplogjdcndohaaGreatDoor
open Go.RowKit Go.Sort
set_option linter.unusedVariables false
set_option maxRecDepth 100000

theorem pickR_no {r : List Cl.C} {ps : List Int} (h : Rw.okP ps r.length = false) : Rw.pickR r ps = (6, []) := by unfold Rw.pickR; rw [if_pos h]
theorem pickR_yes {r : List Cl.C} {ps : List Int} (h : Rw.okP ps r.length = true) : Rw.pickR r ps = (0, Rw.pick r ps) := by unfold Rw.pickR; rw [if_neg (by rw [h]; simp)]
theorem okP_nil {ps : List Int} (h : Rw.okP ps 0 = true) : ps = [] := by
  cases ps with
  | nil => rfl
  | cons p t => have := (Rw.okP_cons.1 h).1; omega
theorem pick_len (r : List Cl.C) (ps : List Int) : (Rw.pick r ps).length = ps.length := by simp [Rw.pick]
theorem both_ok {r : List Cl.C} {F Th : List Int} (h1 : Rw.okP F r.length = true) (h2 : Rw.okP Th F.length = true) : Rw.okP (Th.map fun q => F.getD q.toNat 0) r.length = true := by
  unfold Rw.okP
  rw [List.all_eq_true]
  intro p hp
  obtain ⟨q, hq, rfl⟩ := List.mem_map.1 hp
  obtain ⟨i, hi, e⟩ := List.mem_iff_getElem.1 hq
  have h := Rw.okP_at h2 (i := i) (p := q) (by rw [List.getElem?_eq_getElem hi, e])
  have h3 := Rw.okP_at h1 (i := q.toNat) (p := F.getD q.toNat 0) (by rw [List.getD_eq_getElem?_getD, List.getElem?_eq_getElem (show q.toNat < F.length by omega)]; rfl)
  simpa using h3
theorem take_snocI {l : List Int} {k : Nat} {x : Int} (f : Int → Int) (h : l[k]? = some x) : ((l.take k).map f) ++ [f x] = (l.take (k + 1)).map f := by
  rw [List.take_add_one, h, List.map_append]; rfl
structure IntIn (w : World) (v : Value) (l : List Int) : Prop where
  rd : RdI w w.heap.size v l
  ok : ∀ x ∈ l, -9223372036854775808 ≤ x ∧ x ≤ 9223372036854775807
set_option maxHeartbeats 16000000 in
theorem rowPicks (rv fv tv : Value) (r : List Cl.C) (F0 T0 : List Int) (w : World) (hr : RowIn w rv r) (hf : IntIn w fv F0) (ht : IntIn w tv T0) (T : TA w) :
    Calls Tryz.prog 10 #[rv, fv, tv] w fun e w' => e = .returned (.bool true) ∧ Below w.heap.size w w' := by
  have HR := Lib.hid hr
  have HF := Lib.hid hf
  have HS := Lib.hid ht
  have HT := Lib.hid (fun w1 (hb : Below w.heap.size w w1) => T.later hb)
  clear hr hf ht T
  go_enter Tryz.func10, Tryz.ntmps10
  go_wp2_with fail
  ((with_reducible refine (lCutR rv r w HR.out.rd HR.out.sz).mono ?_); rintro e w1 ⟨v1, rfl, ho, b1⟩)
  have HR1 := Lib.hid (RdC.of ho)
  have HU1 := Lib.hid b1
  clear ho b1
  go_wp2_with fail
  ((with_reducible refine (lFew fv F0 w1 (HF.out.rd.later HU1.out)).mono ?_); rintro e w2 ⟨v2, rfl, ho, b2⟩)
  have HR2 := Lib.hid (HR1.out.later b2)
  have HF2 := Lib.hid (RdI.of ho)
  have HU2 := Lib.hid (up HU1.out b2)
  clear ho b2 HR1 HU1
  go_wp2_with fail
  ((with_reducible refine (lFew tv T0 w2 (HS.out.rd.later HU2.out)).mono ?_); rintro e w3 ⟨v3, rfl, ho, b3⟩)
  have HR3 := Lib.hid (HR2.out.later b3)
  have HF3 := Lib.hid (HF2.out.later b3)
  have HS3 := Lib.hid (RdI.of ho)
  have HU3 := Lib.hid (up HU2.out b3)
  have lF : (F0.take 12).length ≤ 12 := by rw [List.length_take]; omega
  have lS : (T0.take 12).length ≤ 12 := by rw [List.length_take]; omega
  have lR := cutR_len r
  clear ho b3 HR2 HF2 HU2 HR HF HS
  generalize cutR r = r' at *
  generalize F0.take 12 = F at *
  generalize T0.take 12 = S at *
  obtain ⟨fa, fc, rfl, _⟩ := Gn.Rd.form HF3.out
  obtain ⟨sa, sc, rfl, _⟩ := Gn.Rd.form HS3.out
  go_wp2_with fail
  obtain ⟨⟨e1, A⟩, hX⟩ : ∃ X, Rw.pickR r' F = X := ⟨_, rfl⟩
  obtain ⟨⟨e2, Bl⟩, hY⟩ : ∃ Y, Rw.pickR A S = Y := ⟨_, rfl⟩
  ((with_reducible refine (pick_at _ _ r' F w3 HR3.out HF3.out (by omega) A.length e1 A hX rfl).mono ?_); rintro e w4 ⟨a4, c4, rfl, hr4, b4⟩)
  have HA4 := Lib.hid hr4
  have HR4 := Lib.hid (HR3.out.later b4)
  have HF4 := Lib.hid (HF3.out.later b4)
  have HS4 := Lib.hid (HS3.out.later b4)
  have HU4 := Lib.hid (up HU3.out b4)
  clear b4 hr4 HR3 HF3 HS3 HU3
  go_wp2_with fail
  ((with_reducible refine (pick_at _ _ A S w4 HA4.out HS4.out (by omega) Bl.length e2 Bl hY rfl).mono ?_); rintro e w5 ⟨a5, c5, rfl, hr5, b5⟩)
  have HB5 := Lib.hid hr5
  have HR5 := Lib.hid (HR4.out.later b5)
  have HF5 := Lib.hid (HF4.out.later b5)
  have HS5 := Lib.hid (HS4.out.later b5)
  have HU5 := Lib.hid (up HU4.out b5)
  clear b5 hr5 HR4 HF4 HS4 HU4 HA4
  by_cases h2 : Rw.okP S A.length = true
  · have e := pickR_yes h2
    rw [hY] at e
    injection e with e3 e4
    subst e3
    have hAF : S = [] ∨ (Rw.okP F r'.length = true ∧ e1 = 0 ∧ A = Rw.pick r' F) := by
      cases h1 : Rw.okP F r'.length with
      | true =>
        have e := pickR_yes h1
        rw [hX] at e
        injection e with e5 e6
        exact .inr ⟨rfl, e5, e6⟩
      | false =>
        have e := pickR_no h1
        rw [hX] at e
        injection e with e5 e6
        subst e6
        exact .inl (okP_nil h2)
    have hin : ∀ (k : Nat) q, S[k]? = some q → ∃ n : Nat, q = n ∧ n < F.length := fun k q hq => by
      rcases hAF with rfl | ⟨_, _, rfl⟩
      · simp at hq
      · have := Rw.okP_at h2 hq
        rw [pick_len] at this
        exact ⟨q.toNat, by omega, by omega⟩
    have HIN := Lib.hid hin
    have H2 := Lib.hid h2
    have HAF := Lib.hid hAF
    have HX := Lib.hid hX
    have HE4 := Lib.hid e4
    clear hin h2 hAF hX hY e4
    go_wp2_with fail
    go_loopw [11, 12] (fun o i wr => ∃ k : Nat, k ≤ S.length ∧ i = .int .i64 (k : Nat) ∧ Hid (OwnI wr w5.heap.size o ((S.take k).map fun q => F.getD q.toNat 0)) ∧ Hid (Below w5.heap.size w5 wr)) (fun _ i _ => S.length - (intOf i).toNat)
    case atStart => exact ⟨0, by omega, by rfl, Lib.hid (Gn.Own.nil _ _), Lib.hid (Below.refl _ _)⟩
    case round =>
      obtain ⟨k, hk, rfl, HO, HU⟩ := hrel
      by_cases hlt : k < S.length
      · have hlt1 : (k : Int) < S.length := by omega
        obtain ⟨q, hq⟩ : ∃ q, S[k]? = some q := ⟨_, List.getElem?_eq_getElem hlt⟩
        obtain ⟨n, rfl, hn⟩ := HIN.out k q hq
        obtain ⟨y, hy⟩ : ∃ y, F[n]? = some y := ⟨_, List.getElem?_eq_getElem hn⟩
        obtain ⟨b1, o1, rfl, p0⟩ := rdI_cell HS5.out HU.out hq
        obtain ⟨b2, o2, rfl, p1⟩ := rdI_cell HF5.out HU.out hy
        have hyd : F.getD n 0 = y := by rw [List.getD_eq_getElem?_getD, hy]; rfl
        have HX2 := Lib.hid (take_snocI (fun q => F.getD q.toNat 0) hq)
        have hn1 : (n : Int) < F.length := by omega
        have hn2 : ¬ (n : Int) ≥ F.length := by omega
        have hn3 : ¬ (n : Int) < 0 := by omega
        clear hq hy
        have HLN : Hid (((S.take k).map fun q => F.getD q.toNat 0).length + ([y] : List Int).length ≤ 100000000) := Lib.hid (by rw [List.length_map, List.length_take]; simp; omega)
        have HB1 := Lib.hid (box_new wr (.cells #[.int .i64 y] 3))
        have HO2 := Lib.hid (Gn.Own.later HO.out HB1.out)
        have HR2 := Lib.hid (rd_one 3 inL wr y #[.int .i64 y] rfl)
        have HU2 := Lib.hid (up HU.out HB1.out)
        have HSZ := Lib.hid HU2.out.size
        clear HU HO
        go_wp2_with (at_builtin
                     refine Gn.wpList_app inL inY rfl (.tmp 57) (.tmp 65) rfl w5.heap.size u11 ((S.take k).map fun q => F.getD q.toNat 0) (by kernel_rfl) HO2.out (.slice (some ⟨wr.heap.size, 0, none⟩) 1 1) [y] (by kernel_rfl) HR2.out HLN.out HSZ.out ?_
                     intro v1 w1 ho1 hg1 hl1 hn1
                     have HO3 := Lib.hid ho1
                     have HU3 := Lib.hid (HU2.out.trans (Gn.below_of_own HO2.out hg1 HSZ.out))
                     clear ho1 hg1 hl1 hn1)
        go_roundw
        case rel => exact ⟨k + 1, by omega, by go_num, Lib.hid (by rw [← HX2.out]; simp only [Int.toNat_natCast]; rw [hyd]; exact HO3.out), HU3⟩
        case measure => simp [intOf]; omega
      · have hlt1 : ¬ (k : Int) < S.length := by omega
        obtain rfl : k = S.length := by omega
        rw [List.take_length] at HO
        have HU6 := Lib.hid (up HU5.out HU.out)
        rcases Nat.eq_zero_or_pos e1 with h0 | h0
        · subst h0
          obtain ⟨h1, hA⟩ : Rw.okP F r'.length = true ∧ A = Rw.pick r' F := by
            cases h1 : Rw.okP F r'.length with
            | true =>
              have e := pickR_yes h1
              rw [HX.out] at e
              injection e with e5 e6
              exact ⟨rfl, e6⟩
            | false =>
              have e := pickR_no h1
              rw [HX.out] at e
              injection e with e5 e6
              omega
          have hAl : A.length = F.length := by rw [hA, pick_len]
          have h22 : Rw.okP S F.length = true := by rw [← hAl]; exact H2.out
          have HC := Lib.hid (pickR_yes (both_ok h1 h22))
          have hEq : Bl = Rw.pick r' (S.map fun q => F.getD q.toNat 0) := by rw [HE4.out, hA]; exact Rw.pick_pick r' F S h1 h22
          have HBC := Lib.hid hEq
          have HL := Lib.hid (show (Rw.pick r' (S.map fun q => F.getD q.toNat 0)).length ≤ 1000000 by rw [pick_len, List.length_map]; omega)
          have hAl1 : ((A.length : Int) == (F.length : Nat)) = true := by simp; omega
          clear hEq h1 h22 hA hAl HAF HX HE4 H2
          have HR6 := Lib.hid (HR5.out.later HU.out)
          have HB6 := Lib.hid (HB5.out.later HU.out)
          go_wp2_with fail
          ((with_reducible refine (pick_at _ _ r' (S.map fun q => F.getD q.toNat 0) wr HR6.out (RdI.of HO.out) (by rw [List.length_map]; omega) _ 0 _ HC.out rfl).mono ?_); rintro e w7 ⟨a7, c7, rfl, hr7, b7⟩)
          have HC7 := Lib.hid hr7
          have HB7 := Lib.hid (HB6.out.later b7)
          have HU7 := Lib.hid (up HU6.out b7)
          clear hr7 b7
          rw [HBC.out] at HB7
          simp only [HBC.out]
          generalize Rw.pick r' (S.map fun q => F.getD q.toNat 0) = Z at *
          go_wp2_with fail
          ((with_reducible refine (eqRow _ _ Z Z w7 HB7.out HC7.out HL.out true (by simp)).mono ?_); rintro e w8 ⟨rfl, b8⟩)
          have HU8 := Lib.hid (up HU7.out b8)
          clear b8
          go_wp2_with fail
          ((with_reducible refine (works _ (HT.out _ HU8.out)).mono ?_); rintro e wz ⟨rfl, bz⟩)
          have HZ := Lib.hid (up HU8.out bz)
          clear bz
          go_wp2_with fail
          go_ret
          exact ⟨rfl, HZ.out⟩
        · obtain ⟨rfl, rfl⟩ : e1 = 6 ∧ A = [] := by
            cases h1 : Rw.okP F r'.length with
            | true =>
              have e := pickR_yes h1
              rw [HX.out] at e
              injection e with e5 e6
              omega
            | false =>
              have e := pickR_no h1
              rw [HX.out] at e
              injection e with e5 e6
              exact ⟨e5, e6⟩
          clear h0 HAF HX HE4
          go_wp2_with fail
          ((with_reducible refine (works _ (HT.out _ HU6.out)).mono ?_); rintro e wz ⟨rfl, bz⟩)
          have HZ := Lib.hid (up HU6.out bz)
          clear bz
          go_wp2_with fail
          go_ret
          exact ⟨rfl, HZ.out⟩
  · have h2f : Rw.okP S A.length = false := by cases h : Rw.okP S A.length with | false => rfl | true => exact absurd h h2
    have e := pickR_no h2f
    rw [hY] at e
    injection e with e3 e4
    subst e3 e4
    clear h2 hY
    have hS : 0 < S.length := by
      rcases Nat.eq_zero_or_pos S.length with h | h
      · have := List.eq_nil_of_length_eq_zero h
        subst this
        simp [Rw.okP] at h2f
      · exact h
    have hS1 : (0 : Int) < S.length := by omega
    clear h2f hS
    have h1 : (e1 = 0) ∨ (e1 = 6 ∧ A = []) := by
      cases h1 : Rw.okP F r'.length with
      | true =>
        have e := pickR_yes h1
        rw [hX] at e
        injection e with e5 e6
        exact .inl e5
      | false =>
        have e := pickR_no h1
        rw [hX] at e
        injection e with e5 e6
        exact .inr ⟨e5, e6⟩
    clear hX
    rcases h1 with rfl | ⟨rfl, rfl⟩
    all_goals
      go_wp2_with fail
      go_loopw [11, 12] (fun o i wr => i = .int .i64 0 ∧ wr = w5) (fun _ i _ => 0)
      case atStart => exact ⟨rfl, rfl⟩
      case round =>
        obtain ⟨rfl, rfl⟩ := hrel
        go_wp2_with fail
        ((with_reducible refine (works _ (HT.out _ HU5.out)).mono ?_); rintro e wz ⟨rfl, bz⟩)
        have HZ := Lib.hid (up HU5.out bz)
        clear bz
        go_wp2_with fail
        go_ret
        exact ⟨rfl, HZ.out⟩
end Go.Proofs.YtfplogjdcndohaaGreatDoor

/- RowUnkeyed's and RowBytes' walks: keys and the cells of which they are put together. -/
namespace Go.Proofs.YtfplogjdcndohaaGreatDoor
open Go.RowKit Go.Sort
set_option linter.unusedVariables false
set_option maxRecDepth 100000

theorem body_le (k : Int) (c : Cl.C) : (Cl.body k c).length ≤ 2 * c.s.size + 9 := by
  have h := (Cl.esc0_len (bl c.s)).2
  rw [bl_length] at h
  unfold Cl.body
  split
  · simp
  · split
    · rw [Cl.be_len]; omega
    · rw [List.length_append]; simp; omega
theorem bts_le (u : Bool) (k : Int) (c : Cl.C) : (Cl.bts u k c).length ≤ 2 * c.s.size + 10 := by
  have h := body_le k c
  unfold Cl.bts
  split
  · simp
  · rw [List.length_append]
    split
    · simp; omega
    · simp; omega
theorem key_le (ts : List Rw.Ty) (r : List Cl.C) (hr : ∀ c ∈ r, c.s.size ≤ 1100) : ∀ ps : List Int, (Rw.key ts ps r).length ≤ ps.length * 2210
  | [] => by simp [Rw.key]
  | p :: ps => by
    have ih := key_le ts r hr ps
    have hc : (Rw.cAt r p).s.size ≤ 1100 := by
      unfold Rw.cAt
      rw [List.getD_eq_getElem?_getD]
      cases h : r[p.toNat]? with
      | none => exact Nat.zero_le _
      | some c => exact hr c (List.mem_of_getElem? h)
    have h := bts_le (Rw.tAt ts p).1 (Rw.tAt ts p).2 (Rw.cAt r p)
    rw [Rw.key_cons, List.length_append, List.length_cons]
    unfold Rw.kAt
    omega
theorem key_byte {ts : List Rw.Ty} {r : List Cl.C} (hr : Rw.chkR ts r = 0) : ∀ ps : List Int, Rw.okP ps r.length = true → ∀ x ∈ Rw.key ts ps r, x < 256
  | [], _ => fun x hx => by simp [Rw.key] at hx
  | p :: ps, hp => fun x hx => by
    obtain ⟨h1, h2⟩ := Rw.okP_cons.1 hp
    obtain ⟨h3, h4⟩ := (Rw.chkR_ok hr).2 p h1
    rw [Rw.key_cons] at hx
    rcases List.mem_append.1 hx with h | h
    · exact Cl.bts_byte h3 h4 x h
    · exact key_byte hr ps h2 x h
theorem keyR_cases {ts : List Rw.Ty} {ps : List Int} {r : List Cl.C} {d : Int} {l : List Nat} (h : Rw.keyR ts ps r = (d, l)) : (d ≠ 0 ∧ l = []) ∨ (d = 0 ∧ Rw.chkR ts r = 0 ∧ Rw.okP ps r.length = true ∧ l = Rw.key ts ps r) := by
  unfold Rw.keyR at h
  split at h
  · rename_i h1
    injection h with h2 h3
    subst h2 h3
    exact .inl ⟨h1, rfl⟩
  · rename_i h1
    split at h
    · injection h with h2 h3
      subst h2 h3
      exact .inl ⟨by decide, rfl⟩
    · rename_i h4
      injection h with h2 h3
      exact .inr ⟨h2.symm, by omega, by simpa using h4, h3.symm⟩
theorem unkR_key {ts : List Rw.Ty} {ps : List Int} {r : List Cl.C} (hr : Rw.chkR ts r = 0) (ir : ∀ c ∈ r, Cl.I64 c.n) (hp : Rw.okP ps r.length = true) : Rw.unkR ts ps (bl (str (Rw.key ts ps r))) = (0, Rw.pick r ps) := by
  rw [bl_str _ (key_byte hr ps hp)]
  unfold Rw.unkR
  rw [← (Rw.chkR_ok hr).1, if_neg (by rw [hp]; simp)]
  simp only [Rw.unk_key ts r hr ir ps hp]
  simp
theorem unkR_cases {ts : List Rw.Ty} {ps : List Int} {l : List Nat} {e : Nat} {r : List Cl.C} (h : Rw.unkR ts ps l = (e, r)) : (e ≠ 0 ∧ r = []) ∨ (e = 0 ∧ Rw.unk ts ps l = (0, r, []) ∧ Rw.okP ps ts.length = true) := by
  unfold Rw.unkR at h
  split at h
  · injection h with h1 h2
    subst h1 h2
    exact .inl ⟨by decide, rfl⟩
  · rename_i hp
    simp only at h
    split at h
    · rename_i h3
      injection h with h1 h2
      subst h1 h2
      exact .inl ⟨h3, rfl⟩
    · split at h
      · injection h with h1 h2
        subst h1 h2
        exact .inl ⟨by decide, rfl⟩
      · rename_i h3 h4
        injection h with h1 h2
        refine .inr ⟨h1.symm, ?_, by simpa using hp⟩
        rw [← h2]
        have h5 : (Rw.unk ts ps l).1 = 0 := by omega
        have h6 : (Rw.unk ts ps l).2.2 = [] := by simpa using h4
        rw [← h5, ← h6]
theorem of_size {u : Bool} {k : Int} {c : Cl.C} (hk : Cl.may k = true) (h : Cl.of u k c = true) : c.s.size ≤ 1024 := by
  have z : bl c.s = [] → c.s.size ≤ 1024 := fun e => by have := bl_nil.1 e; omega
  rcases Cl.of_parts h with ⟨_, _, _, h⟩ | ⟨_, h⟩
  · exact z h
  · have := Cl.may_le hk
    unfold Cl.isK at h
    rcases (show k = 1 ∨ k = 2 ∨ k = 3 ∨ k = 4 ∨ k = 5 by omega) with rfl | rfl | rfl | rfl | rfl <;> simp at h
    · exact z h.2.1
    · exact z h.2.1
    · exact z h.2
    · exact h.2.1.2
    · exact h.2.2
theorem unk_at (kv pv : Value) (s : ByteArray) (ks : List Co) (ps : List Int) (w : World) (T : TA w) (hk : RdK w w.heap.size kv ks) (hp : RdI w w.heap.size pv ps) (hl : ps.length ≤ 100000) (hm : s.size ≤ 100000) (n e0 : Nat) (l : List Cl.C) (ha : Rw.unkR (tys ks) ps (bl s) = (e0, l)) (hn : n = l.length) :
    Calls Tryz.prog 27 #[kv, pv, .string s] w fun e w' => ∃ a c, e = .returned (.tuple #[.slice a n c, .int .i64 (e0 : Nat)]) ∧ RdC w' w'.heap.size (.slice a n c) l ∧ Below w.heap.size w w' := by
  subst hn
  exact (rowUnkey kv pv s ks ps w T hk hp hl hm _ ha).mono fun e w' h => h.form
set_option maxHeartbeats 16000000 in
theorem rowUnkeyed (kv pv rv : Value) (K0 : List Co) (P0 : List Int) (R0 : List Cl.C) (w : World) (hk : RdK w w.heap.size kv K0) (hp : IntIn w pv P0) (hr : RowIn w rv R0) (T : TA w) :
    Calls Tryz.prog 8 #[kv, pv, rv] w fun e w' => e = .returned (.bool true) ∧ Below w.heap.size w w' := by
  have HK := Lib.hid hk
  have HP := Lib.hid hp
  have HR := Lib.hid hr
  have HT := Lib.hid (fun w1 (hb : Below w.heap.size w w1) => T.later hb)
  clear hk hp hr T
  go_enter Tryz.func8, Tryz.ntmps8
  go_wp2_with fail
  ((with_reducible refine (lColumns kv K0 w HK.out).mono ?_); rintro e w1 ⟨v1, rfl, ho, b1⟩)
  have HK1 := Lib.hid (RdK.of ho)
  have HU1 := Lib.hid b1
  clear ho b1
  go_wp2_with fail
  ((with_reducible refine (lFew pv P0 w1 (HP.out.rd.later HU1.out)).mono ?_); rintro e w2 ⟨v2, rfl, ho, b2⟩)
  have HK2 := Lib.hid (HK1.out.later b2)
  have HP2 := Lib.hid (RdI.of ho)
  have HU2 := Lib.hid (up HU1.out b2)
  clear ho b2 HK1 HU1
  go_wp2_with fail
  ((with_reducible refine (lCutR rv R0 w2 (HR.out.rd.later HU2.out) HR.out.sz).mono ?_); rintro e w3 ⟨v3, rfl, ho, b3⟩)
  have HK3 := Lib.hid (HK2.out.later b3)
  have HP3 := Lib.hid (HP2.out.later b3)
  have HR3 := Lib.hid (RdC.of ho)
  have HU3 := Lib.hid (up HU2.out b3)
  have lP : (P0.take 12).length ≤ 12 := by rw [List.length_take]; omega
  have lR := cutR_len R0
  have HOK := Lib.hid (cutR_ok (fun c hc => (HR.out.ok c hc).1) : ∀ c ∈ cutR R0, Cl.I64 c.n ∧ c.s.size ≤ 1100)
  clear ho b3 HK2 HP2 HU2 HK HP HR
  generalize cutR R0 = r at *
  generalize P0.take 12 = F at *
  generalize K0.take 40 = K at *
  have HLE := Lib.hid (key_le (tys K) r (fun c hc => (HOK.out c hc).2) F)
  obtain ⟨⟨d, l⟩, hX⟩ : ∃ X, Rw.keyR (tys K) F r = X := ⟨_, rfl⟩
  go_wp2_with fail
  ((with_reducible refine (rowKey _ _ _ K F r w3 (HT.out _ HU3.out) HK3.out HP3.out HR3.out (by omega) (by omega) (fun c hc => (HOK.out c hc).1) (fun c hc => by have := (HOK.out c hc).2; omega) (by have := HLE.out; omega) (d, l) hX (str l) rfl).mono ?_); rintro e w4 ⟨rfl, b4⟩)
  have HK4 := Lib.hid (HK3.out.later b4)
  have HP4 := Lib.hid (HP3.out.later b4)
  have HR4 := Lib.hid (HR3.out.later b4)
  have HU4 := Lib.hid (up HU3.out b4)
  clear b4 HK3 HP3 HR3 HU3
  rcases keyR_cases hX with ⟨hd, rfl⟩ | ⟨rfl, hc, hok, rfl⟩
  · have hd1 : (d != 0) = true := by simpa using hd
    clear hX hd
    rw [str_nil]
    go_wp2_with fail
    ((with_reducible refine (works _ (HT.out _ HU4.out)).mono ?_); rintro e wz ⟨rfl, bz⟩)
    have HZ := Lib.hid (up HU4.out bz)
    clear bz
    go_wp2_with fail
    go_ret
    exact ⟨rfl, HZ.out⟩
  · have HUK := Lib.hid (unkR_key hc (fun c hc => (HOK.out c hc).1) hok)
    have HPK := Lib.hid (pickR_yes hok)
    have HL := Lib.hid (show (Rw.pick r F).length ≤ 1000000 by rw [pick_len]; omega)
    have HSZ := Lib.hid (show (str (Rw.key (tys K) F r)).size ≤ 100000 by rw [str_size]; have := HLE.out; omega)
    clear hX hc hok HLE
    generalize str (Rw.key (tys K) F r) = x at *
    go_wp2_with fail
    ((with_reducible refine (unk_at _ _ x K F w4 (HT.out _ HU4.out) HK4.out HP4.out (by omega) HSZ.out _ 0 _ HUK.out rfl).mono ?_); rintro e w5 ⟨a5, c5, rfl, hr5, b5⟩)
    have HA5 := Lib.hid hr5
    have HP5 := Lib.hid (HP4.out.later b5)
    have HR5 := Lib.hid (HR4.out.later b5)
    have HU5 := Lib.hid (up HU4.out b5)
    clear b5 hr5 HK4 HP4 HR4 HU4
    go_wp2_with fail
    ((with_reducible refine (pick_at _ _ r F w5 HR5.out HP5.out (by omega) _ 0 _ HPK.out rfl).mono ?_); rintro e w6 ⟨a6, c6, rfl, hr6, b6⟩)
    have HA6 := Lib.hid (HA5.out.later b6)
    have HB6 := Lib.hid hr6
    have HU6 := Lib.hid (up HU5.out b6)
    clear b6 hr6 HA5 HP5 HR5 HU5
    go_wp2_with fail
    ((with_reducible refine (eqRow _ _ _ _ w6 HA6.out HB6.out HL.out true (by simp)).mono ?_); rintro e w7 ⟨rfl, b7⟩)
    have HU7 := Lib.hid (up HU6.out b7)
    clear b7
    go_wp2_with fail
    ((with_reducible refine (works _ (HT.out _ HU7.out)).mono ?_); rintro e wz ⟨rfl, bz⟩)
    have HZ := Lib.hid (up HU7.out bz)
    clear bz
    go_wp2_with fail
    go_ret
    exact ⟨rfl, HZ.out⟩
def nums (n : Nat) : List Int := (List.range n).map fun i => ((i : Nat) : Int)
theorem nums_len (n : Nat) : (nums n).length = n := by simp [nums]
theorem nums_snoc (k : Nat) : nums k ++ [((k : Nat) : Int)] = nums (k + 1) := by unfold nums; rw [List.range_succ, List.map_append]; rfl
theorem nums_ok (n : Nat) : Rw.okP (nums n) n = true := by
  unfold Rw.okP nums
  rw [List.all_eq_true]
  intro p hp
  obtain ⟨i, hi, rfl⟩ := List.mem_map.1 hp
  have := List.mem_range.1 hi
  simp; omega
set_option maxHeartbeats 16000000 in
theorem rowBytes (kv : Value) (K0 : List Co) (s0 : ByteArray) (w : World) (hk : RdK w w.heap.size kv K0) (hm : s0.size ≤ maxLen) (T : TA w) :
    Calls Tryz.prog 9 #[kv, .string s0] w fun e w' => e = .returned (.bool true) ∧ Below w.heap.size w w' := by
  have hml := Gn.Rd.len' hk
  obtain ⟨ka, kc, rfl, _⟩ := Gn.Rd.form hk
  have hru : RdK w w.heap.size (.slice ka (min (K0.length : Int) 12).toNat kc) (K0.take (min (K0.length : Int) 12).toNat) := rd_to (m := (min (K0.length : Int) 12).toNat) hk (by omega)
  have HK := Lib.hid hru
  have lK : (K0.take (min (K0.length : Int) 12).toNat).length ≤ 12 := by rw [List.length_take]; omega
  have HT := Lib.hid (fun w1 (hb : Below w.heap.size w w1) => T.later hb)
  unfold maxLen at hm
  obtain ⟨s, hs⟩ : ∃ s2, s0.extract 0 (min (s0.size : Int) 3000).toNat = s2 := ⟨_, rfl⟩
  have hsl : ∀ w, (Instr.slice 9 (.string s0) none (some (.int .i64 (min (s0.size : Int) 3000))) none).run Tryz.prog w = .ok (.string s) w := fun w => by
    rw [run_slice_string_to_if w 9 s0 .i64 _ Tryz.underlying9, if_pos (by omega), hs]
  have hss : s.size ≤ 100000 := by rw [← hs]; simp; omega
  clear hk hru T hs
  go_enter Tryz.func9, Tryz.ntmps9
  go_wp2_with fail
  ((with_reducible refine (copyCols _ _ w HK.out (by omega)).mono ?_); rintro e w1 ⟨v1, rfl, ho, b1⟩)
  generalize K0.take (min (K0.length : Int) 12).toNat = K at *
  have HK1 := Lib.hid (RdK.of ho)
  have HU1 := Lib.hid b1
  clear ho b1 HK
  obtain ⟨ka1, kc1, rfl, _⟩ := Gn.Rd.form HK1.out
  go_wp2_with fail
  go_loopw [5, 6] (fun o i wr => ∃ k : Nat, k ≤ K.length ∧ i = .int .i64 (k : Nat) ∧ Hid (OwnI wr w1.heap.size o (nums k)) ∧ Hid (Below w1.heap.size w1 wr)) (fun _ i _ => K.length - (intOf i).toNat)
  case atStart => exact ⟨0, by omega, by rfl, Lib.hid (Gn.Own.nil _ _), Lib.hid (Below.refl _ _)⟩
  case round =>
    obtain ⟨k, hkk, rfl, HO, HU⟩ := hrel
    by_cases hlt : k < K.length
    · have hlt1 : (k : Int) < K.length := by omega
      have HX2 := Lib.hid (nums_snoc k)
      have HLN : Hid ((nums k).length + ([(k : Int)] : List Int).length ≤ 100000000) := Lib.hid (by rw [nums_len]; simp; omega)
      have HB1 := Lib.hid (box_new wr (.cells #[.int .i64 (k : Nat)] 3))
      have HO2 := Lib.hid (Gn.Own.later HO.out HB1.out)
      have HR2 := Lib.hid (rd_one 3 inL wr (k : Int) #[.int .i64 (k : Nat)] rfl)
      have HU2 := Lib.hid (up HU.out HB1.out)
      have HSZ := Lib.hid HU2.out.size
      clear HU HO
      go_wp2_with (at_builtin
                   refine Gn.wpList_app inL inY rfl (.tmp 28) (.tmp 30) rfl w1.heap.size u5 (nums k) (by kernel_rfl) HO2.out (.slice (some ⟨wr.heap.size, 0, none⟩) 1 1) [(k : Int)] (by kernel_rfl) HR2.out HLN.out HSZ.out ?_
                   intro v1 w1 ho1 hg1 hl1 hn1
                   have HO3 := Lib.hid ho1
                   have HU3 := Lib.hid (HU2.out.trans (Gn.below_of_own HO2.out hg1 HSZ.out))
                   clear ho1 hg1 hl1 hn1)
      go_roundw
      case rel => exact ⟨k + 1, by omega, by go_num, Lib.hid (by rw [← HX2.out]; exact HO3.out), HU3⟩
      case measure => simp [intOf]; omega
    · have hlt1 : ¬ (k : Int) < K.length := by omega
      obtain rfl : k = K.length := by omega
      have HK2 := Lib.hid (HK1.out.later HU.out)
      have HP2 := Lib.hid (RdI.of HO.out)
      have HU2 := Lib.hid (up HU1.out HU.out)
      have lN := nums_len K.length
      obtain ⟨⟨e1, r⟩, hX⟩ : ∃ X, Rw.unkR (tys K) (nums K.length) (bl s) = X := ⟨_, rfl⟩
      clear HK1 HU1 HO HU
      go_wp2_with fail
      ((with_reducible refine (unk_at _ _ s K (nums K.length) wr (HT.out _ HU2.out) HK2.out HP2.out (by omega) hss r.length e1 r hX rfl).mono ?_); rintro e w3 ⟨a3, c3, rfl, hr3, b3⟩)
      have HR3 := Lib.hid hr3
      have HK3 := Lib.hid (HK2.out.later b3)
      have HP3 := Lib.hid (HP2.out.later b3)
      have HU3 := Lib.hid (up HU2.out b3)
      clear hr3 b3 HK2 HP2 HU2
      rcases unkR_cases hX with ⟨he, rfl⟩ | ⟨rfl, hu, hok⟩
      · have he1 : ((e1 : Int) != 0) = true := by simpa using he
        clear hX he
        go_wp2_with fail
        ((with_reducible refine (works _ (HT.out _ HU3.out)).mono ?_); rintro e wz ⟨rfl, bz⟩)
        have HZ := Lib.hid (up HU3.out bz)
        clear bz
        go_wp2_with fail
        go_ret
        exact ⟨rfl, HZ.out⟩
      · have hu2 : Rw.unk (tys K) ((List.range (tys K).length).map fun i => ((i : Nat) : Int)) (bl s) = (0, r, []) := by rw [tys_len]; exact hu
        obtain ⟨h1, h2, h3, h4⟩ := Rw.unk_own (tys K) (bl s) r (bl_byte s) hu2
        rw [tys_len] at h2 h4
        have h5 : Rw.okP (nums K.length) r.length = true := by rw [h4]; exact nums_ok K.length
        have hkr : Rw.keyR (tys K) (nums K.length) r = (0, bl s) := by
          unfold Rw.keyR
          rw [if_neg (by rw [h1]; simp), if_neg (by rw [h5]; simp)]
          exact congrArg (Prod.mk 0) h2
        have HKR := Lib.hid hkr
        have HC1 := Lib.hid h1
        have HI := Lib.hid h3
        have HM := Lib.hid (show ∀ c ∈ r, c.s.size ≤ 1000000 from fun c hc => by
          obtain ⟨i, hi, e⟩ := List.mem_iff_getElem.1 hc
          obtain ⟨g1, g2⟩ := (Rw.chkR_ok h1).2 (i : Nat) (by omega)
          have e2 : Rw.cAt r (i : Nat) = c := by
            have := Rw.cAt_some (r := r) (p := (i : Nat)) (by omega)
            rw [Int.toNat_natCast, List.getElem?_eq_getElem hi] at this
            injection this with this
            rw [← this, e]
          rw [e2] at g2
          have := of_size g1 g2
          omega)
        have hkl : (Rw.key (tys K) (nums K.length) r).length ≤ 1000000 := by
          have e : Rw.key (tys K) (nums K.length) r = bl s := h2
          rw [e, bl_length]; omega
        have hrl : r.length ≤ 1000000 := by omega
        have hnl : (nums K.length).length ≤ 100000 := by omega
        clear hX hu hok hu2 h1 h2 h3 h5 hkr h4 lN
        have hqq : (s.toList == s.toList) = true := by simp
        go_wp2_with fail
        ((with_reducible refine (rowKey _ _ _ K (nums K.length) r w3 (HT.out _ HU3.out) HK3.out HP3.out HR3.out hnl hrl HI.out HM.out hkl (0, bl s) HKR.out s (str_bl s)).mono ?_); rintro e w4 ⟨rfl, b4⟩)
        have HK4 := Lib.hid (HK3.out.later b4)
        have HR4 := Lib.hid (HR3.out.later b4)
        have HU4 := Lib.hid (up HU3.out b4)
        clear b4 HK3 HP3 HR3 HU3
        go_wp2_with fail
        ((with_reducible refine (rowCheck _ _ K r w4 (HT.out _ HU4.out) HK4.out HR4.out hrl HI.out HM.out 0 HC1.out).mono ?_); rintro e w5 ⟨rfl, b5⟩)
        have HU5 := Lib.hid (up HU4.out b5)
        clear b5
        go_wp2_with fail
        ((with_reducible refine (works _ (HT.out _ HU5.out)).mono ?_); rintro e wz ⟨rfl, bz⟩)
        have HZ := Lib.hid (up HU5.out bz)
        clear bz
        go_wp2_with fail
        go_ret
        exact ⟨rfl, HZ.out⟩
end Go.Proofs.YtfplogjdcndohaaGreatDoor

/- RowKeyed's walk: keys stand as the cells at their places do. -/
namespace Go.Proofs.YtfplogjdcndohaaGreatDoor
open Go.RowKit Go.Sort
set_option linter.unusedVariables false
set_option maxRecDepth 100000

theorem cut_at (W w1 : World) (v : Value) (l : List Cl.C) (h : RowIn W v l) (hb : Below W.heap.size W w1) : Calls Tryz.prog 14 #[v] w1 fun e w2 => ∃ v', e = .returned v' ∧ RdC w2 w2.heap.size v' (cutR l) ∧ Below W.heap.size W w2 ∧ Below w1.heap.size w1 w2 :=
  (lCutR v l w1 (h.rd.later hb) h.sz).mono fun e w2 ⟨v', h1, h2, h3⟩ => ⟨v', h1, RdC.of h2, up hb h3, h3⟩
theorem RowIn.later {w w' : World} {v : Value} {l : List Cl.C} (h : RowIn w v l) (hb : Below w.heap.size w w') : RowIn w' v l := ⟨h.rd.later hb, h.ok⟩
theorem keys_facts {ts : List Rw.Ty} {F : List Int} {a b : List Cl.C} (ha : Rw.chkR ts a = 0) (hb : Rw.chkR ts b = 0) (ia : ∀ c ∈ a, Cl.I64 c.n) (ib : ∀ c ∈ b, Cl.I64 c.n) (oa : Rw.okP F a.length = true) (ob : Rw.okP F b.length = true) (n : Int) (hn : Rw.cmps (Rw.pick a F) (Rw.pick b F) = n) :
    Op.bytesLess (str (Rw.key ts F a)).toList (str (Rw.key ts F b)).toList = decide (n < 0) ∧ ((str (Rw.key ts F a)).toList == (str (Rw.key ts F b)).toList) = decide (n = 0) := by
  have h := Rw.key_less ts a b ha hb ia ib F oa
  rw [hn] at h
  constructor
  · rw [Tp.less_bl, bl_str _ (key_byte ha F oa), bl_str _ (key_byte hb F ob)]; exact h.1
  · rw [bl_eq, bl_str _ (key_byte ha F oa), bl_str _ (key_byte hb F ob)]
    exact decide_eq_decide.2 h.2
set_option maxHeartbeats 16000000 in
theorem rowKeyed (kv pv av bv : Value) (K0 : List Co) (P0 : List Int) (A0 B0 : List Cl.C) (w : World) (hk : RdK w w.heap.size kv K0) (hp : IntIn w pv P0) (ha : RowIn w av A0) (hb : RowIn w bv B0) (T : TA w) :
    Calls Tryz.prog 7 #[kv, pv, .agg #[av, bv]] w fun e w' => e = .returned (.bool true) ∧ Below w.heap.size w w' := by
  have HB0 := Lib.hid (box_new w (.cells #[av, bv] 45))
  have HX := Lib.hid (show Blk (w.alloc (.cells #[av, bv] 45)) w.heap.size 45 [av, bv] from Blk.new w _ _)
  have HK := Lib.hid hk
  have HP := Lib.hid hp
  have HA := Lib.hid ha
  have HB := Lib.hid hb
  have HT := Lib.hid (fun w1 (hb : Below w.heap.size w w1) => T.later hb)
  obtain ⟨aa, ac, rfl, _⟩ := Gn.Rd.form ha.rd
  obtain ⟨ba, bc, rfl, _⟩ := Gn.Rd.form hb.rd
  clear hk hp ha hb T
  go_enter Tryz.func7, Tryz.ntmps7
  go_wp2_with fail
  obtain ⟨gb, hgb⟩ : ∃ g, w.heap.size = g := ⟨_, rfl⟩
  rw [hgb] at HX
  simp only [hgb]
  generalize w.alloc (.cells #[.slice aa A0.length ac, .slice ba B0.length bc] 45) = w0 at *
  ((with_reducible refine (works _ (HT.out _ HB0.out)).mono ?_); rintro e w1 ⟨rfl, b1⟩)
  have HU1 := Lib.hid (up HB0.out b1)
  have HX1 := Lib.hid (Blk.later HX.out b1)
  clear b1 HX HB0
  go_wp2_with fail
  ((with_reducible refine (lColumns kv K0 w1 (HK.out.later HU1.out)).mono ?_); rintro e w2 ⟨v2, rfl, ho, b2⟩)
  have HK2 := Lib.hid (RdK.of ho)
  have HU2 := Lib.hid (up HU1.out b2)
  have HX2 := Lib.hid (Blk.later HX1.out b2)
  clear ho b2 HU1 HX1
  go_wp2_with fail
  ((with_reducible refine (lFew pv P0 w2 (HP.out.rd.later HU2.out)).mono ?_); rintro e w3 ⟨v3, rfl, ho, b3⟩)
  have HK3 := Lib.hid (HK2.out.later b3)
  have HP3 := Lib.hid (RdI.of ho)
  have HU3 := Lib.hid (up HU2.out b3)
  have HX3 := Lib.hid (Blk.later HX2.out b3)
  clear ho b3 HK2 HU2 HX2
  have lP : (P0.take 12).length ≤ 12 := by rw [List.length_take]; omega
  have lA := cutR_len A0
  have lB := cutR_len B0
  have HOA := Lib.hid (cutR_ok (fun c hc => (HA.out.ok c hc).1) : ∀ c ∈ cutR A0, Cl.I64 c.n ∧ c.s.size ≤ 1100)
  have HOB := Lib.hid (cutR_ok (fun c hc => (HB.out.ok c hc).1) : ∀ c ∈ cutR B0, Cl.I64 c.n ∧ c.s.size ≤ 1100)
  have CA := Lib.hid (fun (wx : World) (hx : Below w3.heap.size w3 wx) => cut_at w3 wx _ A0 (HA.out.later HU3.out) hx)
  have CB := Lib.hid (fun (wx : World) (hx : Below w3.heap.size w3 wx) => cut_at w3 wx _ B0 (HB.out.later HU3.out) hx)
  generalize cutR A0 = a at *
  generalize cutR B0 = b at *
  generalize P0.take 12 = F at *
  generalize K0.take 40 = K at *
  go_wp2_with fail
  have SK := Lib.hid (fun (w' : World) (hb : Below w3.heap.size w3 w') => (⟨hb, (Blk.later HX3.out hb).cell 0, (Blk.later HX3.out hb).cell 1⟩ : Below w3.heap.size w3 w' ∧ w'.cell? ⟨gb, 0, none⟩ = some (.slice aa A0.length ac) ∧ w'.cell? ⟨gb, 1, none⟩ = some (.slice ba B0.length bc)))
  go_region_held3 (fun w' => Below w3.heap.size w3 w' ∧ (w'.cell? ⟨gb, 0, none⟩ = some (.slice aa A0.length ac) ∧ w'.cell? ⟨gb, 1, none⟩ = some (.slice ba B0.length bc)))
    (first | exact SK.out _ (Below.refl _ _).drew | exact SK.out _ (Below.refl _ _) | exact SK.out _ HU5.out | exact SK.out _ HU4.out | fail "keep")
    ((first
      | (go_at_call 14; (with_reducible refine (CB.out _ HU4.out).mono ?_); rintro e w5 ⟨vb, rfl, hr, h, b⟩; have HB5 := Lib.hid hr; have HA5 := Lib.hid (HA4.out.later b); have HU5 := Lib.hid h; clear hr h b)
      | (go_at_call 14; (with_reducible refine (CA.out _ HU4.out).mono ?_); rintro e w5 ⟨va, rfl, hr, h, b⟩; have HA5 := Lib.hid hr; have HB5 := Lib.hid (HB4.out.later b); have HU5 := Lib.hid h; clear hr h b)
      | (go_at_call 14; (with_reducible refine (CA.out _ (Below.refl _ _).drew).mono ?_); rintro e w4 ⟨va, rfl, hr, h, b⟩; have HA4 := Lib.hid hr; have HU4 := Lib.hid h; clear hr h b)
      | (go_at_call 14; (with_reducible refine (CB.out _ (Below.refl _ _).drew).mono ?_); rintro e w4 ⟨vb, rfl, hr, h, b⟩; have HB4 := Lib.hid hr; have HU4 := Lib.hid h; clear hr h b)))
  all_goals
    have HK5 := Lib.hid (HK3.out.later HU5.out)
    have HP5 := Lib.hid (HP3.out.later HU5.out)
    have HV5 := Lib.hid (up HU3.out HU5.out)
    clear SK CA CB HK3 HP3 HU3 HX3 HU5 HU4 HK HP HA HB
    have HLA := Lib.hid (key_le (tys K) a (fun c hc => (HOA.out c hc).2) F)
    have HLB := Lib.hid (key_le (tys K) b (fun c hc => (HOB.out c hc).2) F)
    obtain ⟨⟨d1, l1⟩, h1⟩ : ∃ X, Rw.keyR (tys K) F a = X := ⟨_, rfl⟩
    obtain ⟨⟨d2, l2⟩, h2⟩ : ∃ X, Rw.keyR (tys K) F b = X := ⟨_, rfl⟩
    go_wp2_with fail
    ((with_reducible refine (rowKey _ _ _ K F a w5 (HT.out _ HV5.out) HK5.out HP5.out HA5.out (by omega) (by omega) (fun c hc => (HOA.out c hc).1) (fun c hc => by have := (HOA.out c hc).2; omega) (by have := HLA.out; omega) (d1, l1) h1 (str l1) rfl).mono ?_); rintro e w6 ⟨rfl, b6⟩)
    have HK6 := Lib.hid (HK5.out.later b6)
    have HP6 := Lib.hid (HP5.out.later b6)
    have HA6 := Lib.hid (HA5.out.later b6)
    have HB6 := Lib.hid (HB5.out.later b6)
    have HV6 := Lib.hid (up HV5.out b6)
    clear b6 HK5 HP5 HA5 HB5 HV5 HLA
    go_wp2_with fail
    ((with_reducible refine (rowKey _ _ _ K F b w6 (HT.out _ HV6.out) HK6.out HP6.out HB6.out (by omega) (by omega) (fun c hc => (HOB.out c hc).1) (fun c hc => by have := (HOB.out c hc).2; omega) (by have := HLB.out; omega) (d2, l2) h2 (str l2) rfl).mono ?_); rintro e w7 ⟨rfl, b7⟩)
    have HP7 := Lib.hid (HP6.out.later b7)
    have HA7 := Lib.hid (HA6.out.later b7)
    have HB7 := Lib.hid (HB6.out.later b7)
    have HV7 := Lib.hid (up HV6.out b7)
    clear b7 HK6 HP6 HA6 HB6 HV6 HLB
    rcases keyR_cases h1 with ⟨hd, rfl⟩ | ⟨rfl, hc1, ho1, rfl⟩
    · have hd1 : (d1 != 0) = true := by simpa using hd
      clear h1 h2 hd
      go_wp2_with fail
      go_ret
      exact ⟨rfl, HV7.out⟩
    · rcases keyR_cases h2 with ⟨hd, rfl⟩ | ⟨rfl, hc2, ho2, rfl⟩
      · have hd1 : (d2 != 0) = true := by simpa using hd
        clear h1 h2 hd hc1 ho1
        go_wp2_with fail
        go_ret
        exact ⟨rfl, HV7.out⟩
      · obtain ⟨n, hn⟩ : ∃ n, Rw.cmps (Rw.pick a F) (Rw.pick b F) = n := ⟨_, rfl⟩
        obtain ⟨f1, f2⟩ := keys_facts hc1 hc2 (fun c hc => (HOA.out c hc).1) (fun c hc => (HOB.out c hc).1) ho1 ho2 n hn
        have HPA := Lib.hid (pickR_yes ho1)
        have HPB := Lib.hid (pickR_yes ho2)
        have hnr := Rw.cmps_range (Rw.pick a F) (Rw.pick b F)
        rw [hn] at hnr
        have HN := Lib.hid hn
        have HLL := Lib.hid (show (Rw.pick a F).length ≤ 1000000 by rw [pick_len]; omega)
        clear h1 h2 hc1 hc2 ho1 ho2 hn
        generalize str (Rw.key (tys K) F a) = x at *
        generalize str (Rw.key (tys K) F b) = y at *
        go_wp2_with fail
        ((with_reducible refine (pick_at _ _ a F w7 HA7.out HP7.out (by omega) _ 0 _ HPA.out rfl).mono ?_); rintro e w8 ⟨a8, c8, rfl, hr8, b8⟩)
        have HQ8 := Lib.hid hr8
        have HP8 := Lib.hid (HP7.out.later b8)
        have HB8 := Lib.hid (HB7.out.later b8)
        have HV8 := Lib.hid (up HV7.out b8)
        clear b8 hr8 HP7 HA7 HB7 HV7
        go_wp2_with fail
        ((with_reducible refine (pick_at _ _ b F w8 HB8.out HP8.out (by omega) _ 0 _ HPB.out rfl).mono ?_); rintro e w9 ⟨a9, c9, rfl, hr9, b9⟩)
        have HQ9 := Lib.hid (HQ8.out.later b9)
        have HR9 := Lib.hid hr9
        have HV9 := Lib.hid (up HV8.out b9)
        clear b9 hr9 HQ8 HP8 HB8 HV8
        go_wp2_with fail
        ((with_reducible refine (rowCompare _ _ _ _ w9 HQ9.out HR9.out HLL.out n HN.out).mono ?_); rintro e wz ⟨rfl, bz⟩)
        have HZ := Lib.hid (up HV9.out bz)
        clear bz
        rcases (show n = -1 ∨ n = 0 ∨ n = 1 by omega) with rfl | rfl | rfl
        · have g1 := f1.trans (show decide ((-1 : Int) < 0) = true from by decide)
          have g2 := f2.trans (show decide ((-1 : Int) = 0) = false from by decide)
          clear f1 f2
          go_wp2_with fail
          go_ret
          exact ⟨rfl, HZ.out⟩
        · have g1 := f1.trans (show decide ((0 : Int) < 0) = false from by decide)
          have g2 := f2.trans (show decide ((0 : Int) = 0) = true from by decide)
          clear f1 f2
          go_wp2_with fail
          go_ret
          exact ⟨rfl, HZ.out⟩
        · have g1 := f1.trans (show decide ((1 : Int) < 0) = false from by decide)
          have g2 := f2.trans (show decide ((1 : Int) = 0) = false from by decide)
          clear f1 f2
          go_wp2_with fail
          go_ret
          exact ⟨rfl, HZ.out⟩
end Go.Proofs.YtfplogjdcndohaaGreatDoor

/- How rows, columns and places that came in are read. -/
namespace Go.Proofs.YtfplogjdcndohaaGreatDoor
open Go.ChangeShapes Go.WideShapes Go.ChangeAt Go.RowKit Go.Deep
set_option linter.unusedVariables false
set_option maxRecDepth 100000

theorem pick_list {α : Type} [Inhabited α] (n : Nat) (Q : Nat → α → Prop) (h : ∀ i, i < n → ∃ p, Q i p) : ∃ l : List α, l.length = n ∧ ∀ i p, l[i]? = some p → Q i p := by
  induction n with
  | zero => exact ⟨[], rfl, fun i p hp => by simp at hp⟩
  | succ n ih =>
    obtain ⟨l, hl, hq⟩ := ih fun i hi => h i (by omega)
    obtain ⟨p, hp⟩ := h n (by omega)
    refine ⟨l ++ [p], by simp [hl], fun i q hq2 => ?_⟩
    rcases Nat.lt_or_ge i l.length with hi | hi
    · rw [List.getElem?_append_left hi] at hq2
      exact hq i q hq2
    · rw [List.getElem?_append_right hi] at hq2
      have hi2 : i - l.length = 0 := by
        rcases Nat.eq_zero_or_pos (i - l.length) with h0 | h0
        · exact h0
        · rw [List.getElem?_eq_none (by simp; omega)] at hq2; cases hq2
      rw [hi2] at hq2
      simp at hq2
      subst hq2
      rw [show i = n by omega]
      exact hp
theorem add_flat (b off k : Nat) : (⟨b, off, none⟩ : Addr).add k = ⟨b, off + k, none⟩ := by unfold Addr.add; split <;> simp_all
theorem blk_lt {w : World} {a : Addr} {v : Value} (h : w.cell? a = some v) : a.block < w.heap.size := block_lt_of_cell h
/-- A cell among cells. -/
theorem cell_of {H : Type} {enc : TypeId × Value → H} {W : World} {fuel : Nat} {cs : List Value} {x : DataW H × List MemPlace} (hf : DataW.trod enc Tryz.prog W 0 (fun _ => true) true fuel 34 cs = some x) (hl : cs.length = 3) : ∃ c : Cl.C, cs = clc c ∧ Cl.I64 c.n ∧ c.s.size ≤ maxLen := by
  obtain ⟨n0, v0, y0, e0, t0⟩ := open_field Tryz.underlying34 (by kernel_rfl) hf 0 _ rfl (by omega)
  obtain ⟨n1, v1, y1, e1, t1⟩ := open_field Tryz.underlying34 (by kernel_rfl) hf 1 _ rfl (by omega)
  obtain ⟨n2, v2, y2, e2, t2⟩ := open_field Tryz.underlying34 (by kernel_rfl) hf 2 _ rfl (by omega)
  obtain ⟨k0, c0, _⟩ := DataW.trod_bool Tryz.underlying4 t0
  obtain ⟨k1, c1, _, b1⟩ := DataW.trod_int Tryz.underlying2 t1
  obtain ⟨k2, c2, _, b2⟩ := DataW.trod_string Tryz.underlying9 t2
  obtain rfl := (List.cons.inj c0).1
  obtain rfl := (List.cons.inj c1).1
  obtain rfl := (List.cons.inj c2).1
  match cs, hl with
  | [a, b, c], _ =>
    simp at e0 e1 e2
    subst e0 e1 e2
    exact ⟨⟨k0, k1, k2⟩, rfl, bounds_i64 b1, b2⟩
instance : Inhabited Cl.C := ⟨Cl.empty⟩
theorem row_of {H : Type} {enc : TypeId × Value → H} {W : World} {fuel : Nat} {v : Value} {x : DataW H × List MemPlace} (hf : DataW.trod enc Tryz.prog W 0 (fun _ => true) true fuel 23 [v] = some x) : ∃ l, RowIn W v l := by
  rcases open_slice Tryz.underlying23 hf with ⟨hcs, _⟩ | ⟨x, len, cap, m, n, D, Pl, hcs, hb, hl, hm, hmm, _, hi⟩
  · obtain rfl := (List.cons.inj hcs).1
    exact ⟨[], ⟨Gn.Rd.nil _ _, by simp⟩⟩
  · obtain rfl := (List.cons.inj hcs).1
    rw [if_pos rfl] at hmm
    subst hmm
    obtain ⟨ps, hlen, hps⟩ := pick_list (α := Cl.C) len (fun i p => (Cl.I64 p.n ∧ p.s.size ≤ maxLen) ∧ ∀ j, j < 3 → W.cell? ((x.add (i * 3)).add j) = (clc p)[j]?) (fun i hi' => by
      obtain ⟨cs, hc, ht⟩ := hi i (by omega)
      rw [cell_cells] at hc
      obtain ⟨_, hcl, hat⟩ := World.cells?_some hc
      obtain ⟨c, rfl, h1, h2⟩ := cell_of ht hcl
      exact ⟨c, ⟨h1, h2⟩, hat⟩)
    refine ⟨ps, ⟨⟨some x, _, by rw [hlen], by omega, hm, by simp, fun hp => ?_⟩, fun p hp => ?_⟩⟩
    · obtain ⟨b, off, spot⟩ := x
      have h0 : W.cell? (((⟨b, off, spot⟩ : Addr).add (0 * 3)).add 0) = some (.bool (ps[0]'hp).u) := (hps 0 _ (List.getElem?_eq_getElem hp)).2 0 (by omega)
      have hs : spot = none := by simpa [Addr.add] using World.cell?_spot h0
      subst hs
      refine ⟨b, off, rfl, by simpa [Addr.add] using blk_lt h0, fun i p j u hip hj => ?_⟩
      have hj3 : j < 3 := by have := (List.getElem?_eq_some_iff.1 hj).1; simpa [clc] using this
      have := (hps i p hip).2 j hj3
      rw [add_flat, add_flat, hj] at this
      exact this
    · obtain ⟨i, hi', rfl⟩ := List.getElem_of_mem hp
      exact (hps i _ (List.getElem?_eq_getElem hi')).1
/-- A row that came in. -/
theorem open_row {H : Type} {enc : TypeId × Value → H} {W : World} {base : Nat} {v : Value} {d : DataW H} {p : List MemPlace}
    (hv : Value.okWide Tryz.prog W .any base 23 v) (h : DataW.Trod enc Tryz.prog W 0 (fun _ => true) true 23 v d p) : ∃ l, RowIn W v l := by
  obtain ⟨a, len, cap, rfl⟩ := okWide_slice Tryz.underlying23 hv
  obtain ⟨fuel, hf⟩ := h
  exact row_of hf
/-- Places that came in. -/
theorem open_places {H : Type} {enc : TypeId × Value → H} {W : World} {base : Nat} {v : Value} {d : DataW H} {p : List MemPlace}
    (hv : Value.okWide Tryz.prog W .any base 24 v) (h : DataW.Trod enc Tryz.prog W 0 (fun _ => true) true 24 v d p) : ∃ l, IntIn W v l := by
  obtain ⟨a, len, cap, rfl⟩ := okWide_slice Tryz.underlying24 hv
  obtain ⟨fuel, hf⟩ := h
  rcases open_ints Tryz.underlying24 Tryz.underlying3 (by kernel_rfl) hf with ⟨hcs, _⟩ | ⟨x, len, cap, zs, hcs, _, hl, hm, hz, _, hcell, hwz⟩
  · obtain hcs : (Value.slice a len cap) = .slice none 0 0 := by simpa [Value.cells] using hcs
    rw [hcs]
    exact ⟨[], ⟨Gn.Rd.nil _ _, by simp⟩⟩
  · obtain hcs : (Value.slice a _ _) = .slice (some x) len cap := by simpa [Value.cells] using hcs
    rw [hcs]
    have hz' : zs.length = cap := by simpa using hz
    refine ⟨zs.take len, ⟨⟨some x, cap, by simp; omega, by simp; omega, hm, by simp, fun hp => ?_⟩, fun q hq => bounds_i64 (hwz q (List.mem_of_mem_take hq))⟩⟩
    simp at hp
    obtain ⟨b, off, spot⟩ := x
    have hc := hcell 0 (by omega)
    have hs : spot = none := by simpa [Addr.add] using World.cell?_spot hc
    subst hs
    refine ⟨b, off, rfl, by simpa [Addr.add] using blk_lt hc, fun i y j u hi hj => ?_⟩
    have hil := (List.getElem?_eq_some_iff.1 hi).1
    have hil' : i < len := by simp at hil; omega
    have hj0 : j = 0 := by have := (List.getElem?_eq_some_iff.1 hj).1; simp [inc] at this; exact this
    subst hj0
    have := hcell i (by omega)
    rw [add_flat] at this
    rw [List.getElem?_take_of_lt hil'] at hi
    rw [List.getD_eq_getElem?_getD, hi] at this
    have hu : u = .int .i64 y := by simpa [inc] using hj.symm
    subst hu
    simpa using this
/-- A part of a struct, of however many cells. -/
theorem open_part {H : Type} {enc : TypeId × Value → H} {P : Program} {W : World} {fuel : Nat} {t : TypeId} {fs : Array Field} {cs : List Value} {x : DataW H × List MemPlace} (he : P.underlying t = some (.struct fs))
    (h : DataW.trod enc P W 0 (fun _ => true) true fuel t cs = some x) (i : Nat) (f : Field) (hf : fs[i]? = some f) (off k : Nat) (T : TypeId) (ho : f.offset = off) (hT : f.type = T) (hk : P.cellsOf T = k) : ∃ n y, DataW.trod enc P W 0 (fun _ => true) true n T ((cs.drop off).take k) = some y := by
  subst ho hT hk
  obtain ⟨xs, n, _, _, _, hlen, hh⟩ := DataW.trod_struct he h
  have hix : i < xs.length := by rw [hlen]; exact (Array.getElem?_eq_some_iff.1 hf).1
  exact ⟨n, xs[i], (hh i f hf).trans (List.getElem?_eq_getElem hix)⟩
theorem col_cells : Tryz.prog.cellsOf 56 = 7 := by kernel_rfl
theorem col_of {H : Type} {enc : TypeId × Value → H} {W : World} {fuel : Nat} {cs : List Value} {x : DataW H × List MemPlace} (hf : DataW.trod enc Tryz.prog W 0 (fun _ => true) true fuel 56 cs = some x) (hl : cs.length = 7) : ∃ c : Co, cs = coc c := by
  obtain ⟨n0, y0, t0⟩ := open_part Tryz.underlying56 hf 0 _ rfl 0 1 3 rfl rfl (by kernel_rfl)
  obtain ⟨n1, y1, t1⟩ := open_part Tryz.underlying56 hf 1 _ rfl 1 1 9 rfl rfl (by kernel_rfl)
  obtain ⟨n2, y2, t2⟩ := open_part Tryz.underlying56 hf 2 _ rfl 2 2 54 rfl rfl (by kernel_rfl)
  obtain ⟨n3, y3, t3⟩ := open_part Tryz.underlying56 hf 3 _ rfl 4 3 34 rfl rfl (by kernel_rfl)
  match cs, hl with
  | [a0, a1, a2, a3, a4, a5, a6], _ =>
    simp only [List.drop_succ_cons, List.drop_zero, List.take_succ_cons, List.take_zero] at t0 t1 t2 t3
    obtain ⟨k0, c0, _⟩ := DataW.trod_int Tryz.underlying3 t0
    obtain ⟨k1, c1, _⟩ := DataW.trod_string Tryz.underlying9 t1
    obtain ⟨m0, v0, z0, e0, s0⟩ := open_field Tryz.underlying54 (by kernel_rfl) t2 0 _ rfl (by simp)
    obtain ⟨m1, v1, z1, e1, s1⟩ := open_field Tryz.underlying54 (by kernel_rfl) t2 1 _ rfl (by simp)
    obtain ⟨k2, c2, _⟩ := DataW.trod_int Tryz.underlying3 s0
    obtain ⟨k3, c3, _⟩ := DataW.trod_bool Tryz.underlying4 s1
    obtain ⟨c, hc, _⟩ := cell_of t3 rfl
    obtain rfl := (List.cons.inj c0).1
    obtain rfl := (List.cons.inj c1).1
    obtain rfl := (List.cons.inj c2).1
    obtain rfl := (List.cons.inj c3).1
    simp at e0 e1
    subst e0 e1
    unfold clc at hc
    injection hc with h4 hc
    injection hc with h5 hc
    injection hc with h6 hc
    subst h4 h5 h6
    exact ⟨⟨k0, k1, k2, k3, c⟩, rfl⟩
instance : Inhabited Co := ⟨⟨0, ⟨#[]⟩, 0, false, Cl.empty⟩⟩
/-- Columns that came in. -/
theorem open_cols {H : Type} {enc : TypeId × Value → H} {W : World} {base : Nat} {v : Value} {d : DataW H} {p : List MemPlace}
    (hv : Value.okWide Tryz.prog W .any base 22 v) (h : DataW.Trod enc Tryz.prog W 0 (fun _ => true) true 22 v d p) : ∃ l, RdK W W.heap.size v l := by
  obtain ⟨a, len, cap, rfl⟩ := okWide_slice Tryz.underlying22 hv
  obtain ⟨fuel, hf⟩ := h
  have hf : DataW.trod enc Tryz.prog W 0 (fun _ => true) true fuel 22 [.slice a len cap] = some (d, p) := hf
  rcases open_slice Tryz.underlying22 hf with ⟨hcs, _⟩ | ⟨x, len, cap, m, n, D, Pl, hcs, hb, hl, hm, hmm, _, hi⟩
  · rw [(List.cons.inj hcs).1]
    exact ⟨[], Gn.Rd.nil _ _⟩
  · rw [(List.cons.inj hcs).1]
    rw [if_pos rfl] at hmm
    subst hmm
    obtain ⟨ps, hlen, hps⟩ := pick_list (α := Co) len (fun i p => ∀ j, j < 7 → W.cell? ((x.add (i * 7)).add j) = (coc p)[j]?) (fun i hi' => by
      obtain ⟨cs, hc, ht⟩ := hi i (by omega)
      rw [col_cells] at hc
      obtain ⟨_, hcl, hat⟩ := World.cells?_some hc
      obtain ⟨c, rfl⟩ := col_of ht hcl
      exact ⟨c, hat⟩)
    refine ⟨ps, ⟨some x, _, by rw [hlen], by omega, hm, by simp, fun hp => ?_⟩⟩
    obtain ⟨b, off, spot⟩ := x
    have h0 : W.cell? (((⟨b, off, spot⟩ : Addr).add (0 * 7)).add 0) = some (.int .i64 (ps[0]'hp).id) := hps 0 _ (List.getElem?_eq_getElem hp) 0 (by omega)
    have hs : spot = none := by simpa [Addr.add] using World.cell?_spot h0
    subst hs
    refine ⟨b, off, rfl, by simpa [Addr.add] using blk_lt h0, fun i p j u hip hj => ?_⟩
    have hj7 : j < 7 := by have := (List.getElem?_eq_some_iff.1 hj).1; simpa [coc] using this
    have := hps i p hip j hj7
    rw [add_flat, add_flat, hj] at this
    exact this
/-- Two rows that came in, as an array. -/
theorem open_two {H : Type} {enc : TypeId × Value → H} {W : World} {base : Nat} {v : Value} {d : DataW H} {p : List MemPlace}
    (hv : Value.okWide Tryz.prog W .any base 45 v) (h : DataW.Trod enc Tryz.prog W 0 (fun _ => true) true 45 v d p) : ∃ av bv a b, v = .agg #[av, bv] ∧ RowIn W av a ∧ RowIn W bv b := by
  have hv2 : ∃ cs, v = .agg cs := by
    simp only [Value.okWide, Tryz.underlying45] at hv
    obtain ⟨cs, h1, _⟩ := hv
    exact ⟨cs, h1⟩
  obtain ⟨⟨cs⟩, rfl⟩ := hv2
  obtain ⟨fuel, hf⟩ := h
  have hf : DataW.trod enc Tryz.prog W 0 (fun _ => true) true fuel 45 cs = some (d, p) := hf
  obtain ⟨xs, m, _, _, hl, hxl, hh⟩ := DataW.trod_array Tryz.underlying45 hf
  rw [show Tryz.prog.cellsOf 45 = 2 from by kernel_rfl] at hl
  have h0 := hh 0 (by decide)
  have h1 := hh 1 (by decide)
  rw [show Tryz.prog.cellsOf 23 = 1 from by kernel_rfl, List.getElem?_eq_getElem (by omega)] at h0 h1
  match cs, hl with
  | [a, b], _ =>
    simp only [List.drop_succ_cons, List.drop_zero, List.take_succ_cons, List.take_zero, Nat.zero_mul, Nat.one_mul] at h0 h1
    obtain ⟨la, ha⟩ := row_of h0
    obtain ⟨lb, hb⟩ := row_of h1
    exact ⟨a, b, la, lb, rfl, ha, hb⟩
end Go.Proofs.YtfplogjdcndohaaGreatDoor

/- How a row and bytes that came in together are read. -/
namespace Go.Proofs.YtfplogjdcndohaaGreatDoor
open Go.ChangeShapes Go.WideShapes Go.ChangeAt Go.RowKit Go.Deep
set_option linter.unusedVariables false
set_option maxRecDepth 100000

theorem open_case {H : Type} {enc : TypeId × Value → H} {W : World} {base : Nat} {v : Value} {d : DataW H} {p : List MemPlace}
    (hv : Value.okWide Tryz.prog W .any base 39 v) (h : DataW.Trod enc Tryz.prog W 0 (fun _ => true) true 39 v d p) : ∃ av a s, v = .agg #[av, .string s] ∧ RowIn W av a ∧ s.size ≤ maxLen := by
  obtain ⟨cs, rfl, hsz⟩ := okWide_struct Tryz.underlying39 hv
  obtain ⟨fuel, hf⟩ := h
  rw [show Tryz.prog.cellsOf 39 = 2 from by kernel_rfl] at hsz
  obtain ⟨l⟩ := cs
  have hl : l.length = 2 := by simpa using hsz
  have hf : DataW.trod enc Tryz.prog W 0 (fun _ => true) true fuel 39 l = some (d, p) := hf
  obtain ⟨n0, v0, y0, e0, t0⟩ := open_field Tryz.underlying39 (by kernel_rfl) hf 0 _ rfl (by omega)
  obtain ⟨n1, v1, y1, e1, t1⟩ := open_field Tryz.underlying39 (by kernel_rfl) hf 1 _ rfl (by omega)
  obtain ⟨a, ha⟩ := row_of t0
  obtain ⟨k1, c1, _, b1⟩ := DataW.trod_string Tryz.underlying9 t1
  obtain rfl := (List.cons.inj c1).1
  match l, hl with
  | [x, y], _ =>
    simp at e0 e1
    subst e0 e1
    exact ⟨x, a, k1, rfl, ha, b1⟩
end Go.Proofs.YtfplogjdcndohaaGreatDoor
