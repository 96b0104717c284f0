/- join, of lists and of objects (the program's): walked. -/
import Derived.Test.YtgmdjofnkbaflaaDoorJoin
import Derived.Test.YtgmdjofnkbaflaaDoorFew
import Derived.Deep.DeepCutAuto
namespace Go.Proofs.YtgmdjofnkbaflaaDoor
open Go.RowKit
set_option linter.unusedVariables false
set_option maxRecDepth 100000

theorem join_err {k : Int} {ys : List ByteArray} {ls : List (List Nd)} {r : List Nd} {x : Int} (h : JoinIs k ys ls r x) {q : Nat} (hq : q < ls.length) {e : Int} (he : jerr k ys ls (q + 1) = e) (h0 : e ≠ 0) : x = e ∧ r = [] := by
  have hs := jerr_sticks k ys ls (q + 1) (by rw [he]; exact h0) ls.length (by omega)
  rw [he] at hs
  rcases h.is with ⟨_, h2, h3⟩ | ⟨h1, _⟩
  · exact ⟨h2.trans hs, h3⟩
  · rw [hs] at h1; exact absurd h1 h0
theorem join_end {k : Int} {ys : List ByteArray} {ls : List (List Nd)} {r : List Nd} {x : Int} (h : JoinIs k ys ls r x) (h0 : jerr k ys ls ls.length = 0) :
    (4000 < jsz ls ls.length ∧ x = 5 ∧ r = []) ∨ (jsz ls ls.length ≤ 4000 ∧ 64 < jdp ls ls.length ∧ x = 72 ∧ r = []) ∨ (jsz ls ls.length ≤ 4000 ∧ jdp ls ls.length ≤ 64 ∧ x = 0 ∧ r = ⟨k, ⟨#[]⟩, 0, ⟨#[]⟩, (jsz ls ls.length : Nat)⟩ :: jpt ys ls ls.length) := by
  rcases h.is with ⟨h1, _⟩ | ⟨_, h2⟩
  · exact absurd h0 h1
  · exact h2
theorem chk_zero_len {l : List Nd} (h : chk l = 0) : 1 ≤ l.length ∧ l.length ≤ 4000 := by
  obtain ⟨F, hF, _⟩ := may_of h
  obtain ⟨hl, ⟨⟨k, y, n, s, c, rfl, _⟩, _, hfl⟩, _⟩ := hF
  refine ⟨?_, hl⟩
  rw [← hfl, Tp.flat_node]; simp
theorem jerr_part {k : Int} {ys : List ByteArray} {ls : List (List Nd)} {q j : Nat} (h : jerr k ys ls q = 0) (hj : j < q) : chk (ls.getD j []) = 0 := by
  have h1 : jerr k ys ls (j + 1) = 0 := by
    rcases Classical.em (jerr k ys ls (j + 1) = 0) with e | e
    · exact e
    · have := jerr_sticks k ys ls (j + 1) e q (by omega)
      rw [h] at this; exact absurd this.symm e
  rw [jerr] at h1
  split at h1
  · next e => exact absurd h1 e
  · split at h1
    · next e => exact absurd h1 e
    · exact h1
theorem set_key (acc : List Nd) (x : Nd) (l : List Nd) (y : ByteArray) : (acc ++ x :: l).set acc.length { x with key := y } = acc ++ setK y (x :: l) := by
  rw [List.set_append_right (h := Nat.le_refl _), Nat.sub_self]; rfl
theorem getD_at {α : Type} {l : List α} {q : Nat} {x d : α} (h : l[q]? = some x) : l.getD q d = x := by rw [List.getD_eq_getElem?_getD, h]; rfl
theorem take_at {α : Type} {l : List α} {q : Nat} {x : α} (h : l[q]? = some x) : l.take (q + 1) = l.take q ++ [x] := by
  obtain ⟨hq, e⟩ := List.getElem?_eq_some_iff.1 h
  rw [List.take_succ_eq_append_getElem hq, e]
theorem row_more {w w' : World} {base : Nat} {v v' : Value} {acc l : List Nd} (ho : OwnN w base v acc) (hg : w.grownBy w' v.ownBlock) (hb : base ≤ w.heap.size) : Below base w w' := Gn.below_of_own ho hg hb

set_option maxHeartbeats 8000000 in
theorem join6 (kv lv : Value) (ys : List ByteArray) (ss : List Sl) (ls : List (List Nd)) (w : World) (hK : RdT w w.heap.size kv ys) (hS : RdS w w.heap.size lv ss ls) (hys : ∀ y ∈ ys, y.size ≤ maxLen) (hlen : ys.length = ls.length) (hll : ls.length ≤ 100000) (T : Tab w) (r : List Nd) (x : Int) (hr : JoinIs 6 ys ls r x) :
    Calls Tryd.prog 33 #[.int .i64 6, kv, lv] w fun e w' => JPost w r x e w' := by
  have HK := Lib.hid hK
  have HS := Lib.hid hS
  have HT := Lib.hid T
  have HJ := Lib.hid hr
  have HY := Lib.hid hys
  have hsl := hS.len
  obtain ⟨kb, kc, rfl, _⟩ := Gn.Rd.form hK
  obtain ⟨lb, lc, rfl, _⟩ := Gn.Rd.form hS.rd
  obtain ⟨N, hN⟩ : ∃ N, ls.length = N := ⟨_, rfl⟩
  have hky : ys.length = N := hlen.trans hN
  have hks : ss.length = N := hsl.trans hN
  rw [hky] at HK ⊢
  rw [hks] at HS ⊢
  have HN := Lib.hid hN
  have hN0 : N ≤ 100000 := by omega
  have HKY := Lib.hid hky
  have HKS := Lib.hid hks
  clear hK hS T hr hys hsl hll hlen hN hky hks
  go_enter Tryd.func33, Tryd.ntmps33
  go_wp2_with fail
  have HK1 := Lib.hid (fun w => keysof_list 6 (by omega) w)
  ((with_reducible refine (HK1.out _).mono ?_); rintro e w2 ⟨rfl, rfl⟩)
  have HB2 := Lib.hid (Below.refl w.heap.size w)
  go_wp2_with fail
  clear HK1
  go_loopw [8, 9, 24] (fun z d i wr => ∃ (q Z D : Nat), z = .int .i64 (Z : Nat) ∧ d = .int .i64 (D : Nat) ∧ i = .int .i64 (q : Nat) ∧ q ≤ N ∧ Z ≤ 1 + 4000 * q ∧ 1 ≤ Z ∧ D ≤ 65 ∧ Hid (jsz ls q = Z ∧ jdp ls q = D) ∧ Hid (jerr 6 ys ls q = 0) ∧ Hid (Below w.heap.size w wr)) (fun _ _ i _ => N - (intOf i).toNat)
  case atStart => exact ⟨0, 1, 1, by rfl, by rfl, by rfl, by omega, by omega, by omega, by omega, Lib.hid ⟨jsz_zero ls, rfl⟩, Lib.hid rfl, HB2⟩
  case round =>
    obtain ⟨q, Z, D, rfl, rfl, rfl, hq, hZ, hZ1, hD, HZ, HE, HB⟩ := hrel
    by_cases hlt : q < N
    · have hlt1 : (q : Int) < N := by omega
      obtain ⟨s, hs⟩ : ∃ s, ss[q]? = some s := ⟨_, List.getElem?_eq_getElem (by have := HKS.out; omega)⟩
      obtain ⟨l, hl⟩ : ∃ l, ls[q]? = some l := ⟨_, List.getElem?_eq_getElem (by have := HN.out; omega)⟩
      obtain ⟨y, hy⟩ : ∃ y, ys[q]? = some y := ⟨_, List.getElem?_eq_getElem (by have := HKY.out; omega)⟩
      obtain ⟨b1, o1, rfl, c1⟩ := rdS_cell HS.out HB.out hs
      obtain ⟨b2, o2, rfl, c2⟩ := rdT_cell HK.out HB.out hy
      obtain ⟨hrs, hok⟩ := HS.out.each q s l hs hl
      obtain ⟨sa, sn, sc⟩ := s
      have HRS := Lib.hid (Gn.Rd.later hrs HB.out)
      obtain ⟨_, _, e0, _⟩ := Gn.Rd.form hrs
      obtain rfl : sn = l.length := by injection e0
      have CL := Lib.hid (fun (wb : World) (hb : Below wr.heap.size wr wb) (ee : Int) (dd : Nat) (h1 : chk l = ee) (h2 : dpt l = dd) => look _ l wb (Gn.Rd.later HRS.out hb) hok ((HT.out.later HB.out).later hb) ee dd h1 h2)
      have HL := Lib.hid hl
      have HYQ := Lib.hid hy
      simp only at c1
      unfold Sl.val at CL
      have CA := Lib.hid (fun w => ask_list y w)
      obtain ⟨ke1, hke⟩ : ∃ k1, lkey y = k1 := ⟨_, rfl⟩
      rw [hke] at CA
      clear hrs hok e0 hs hl hy HRS
      go_wp2_with fail
      ((with_reducible refine (CA.out _).mono ?_); rintro e w5 ⟨rfl, rfl⟩)
      by_cases hk : ke1 = 0
      · have HKK : Hid (lkey y = 0) := Lib.hid (hke.trans hk)
        subst hk
        clear CA hke
        obtain ⟨ee, hee⟩ : ∃ ee, chk l = ee := ⟨_, rfl⟩
        obtain ⟨dd, hdd⟩ : ∃ dd, dpt l = dd := ⟨_, rfl⟩
        have CL2 := Lib.hid (fun (wb : World) (hb : Below wr.heap.size wr wb) => CL.out wb hb ee dd hee hdd)
        have hdd2 : dd ≤ 64 := by rw [← hdd]; exact (chk_fit l).2
        have HCE : Hid (jerr 6 ys ls (q + 1) = ee) := Lib.hid (by rw [jerr_chk 6 ys ls q HE.out (by rw [ke, if_neg (by omega), getD_at HYQ.out]; exact HKK.out), getD_at HL.out]; exact hee)
        have HEE := Lib.hid hee
        have HDD := Lib.hid hdd
        clear hee hdd CL
        go_wp2_with fail
        ((with_reducible refine (CL2.out _ (Below.refl _ _)).mono ?_); rintro e w6 ⟨rfl, b6⟩)
        have HB4 := Lib.hid (up HB.out b6)
        clear b6
        by_cases h0 : ee = 0
        · have hln := chk_zero_len (HEE.out.trans h0)
          obtain ⟨nl, hnl⟩ : ∃ n, l.length = n := ⟨_, rfl⟩
          rw [hnl] at hln
          have HJS : Hid (jsz ls (q + 1) = Z + nl ∧ jdp ls (q + 1) = max D (dd + 1)) := Lib.hid ⟨by rw [jsz_succ ls q l HL.out, HZ.out.1, hnl], by rw [jdp, HZ.out.2, getD_at HL.out, HDD.out]⟩
          have HCE0 : Hid (jerr 6 ys ls (q + 1) = 0) := Lib.hid (HCE.out.trans h0)
          have wr1 : (Z : Int) + nl ≤ 500000000 := by omega
          rw [hnl]
          subst h0
          clear hnl HEE CL2 HCE c1 c2
          go_wp2_with fail
          go_roundw
          case rel => exact ⟨q + 1, Z + nl, max D (dd + 1), by go_num, by congr 1; omega, by go_num, by omega, by omega, by omega, by omega, HJS, HCE0, HB4⟩
          case measure => simp [intOf]; omega
        · have h0' : ((ee : Int) != 0) = true := by simpa using h0
          obtain ⟨rfl, rfl⟩ := join_err HJ.out (by have := HN.out; omega) HCE.out h0
          clear h0 CL2 HCE HEE
          go_wp2_with fail
          go_ret2
          exact ⟨_, rfl, Gn.Own.nil _ _, HB4.out⟩
      · have hk' : ((ke1 : Int) != 0) = true := by simpa using hk
        obtain ⟨rfl, rfl⟩ := join_err HJ.out (q := q) (by have := HN.out; omega) ((jerr_key 6 ys ls q HE.out (by rw [ke, if_neg (by omega), getD_at HYQ.out, hke]; exact hk)).trans (by rw [ke, if_neg (by omega), getD_at HYQ.out, hke])) hk
        clear hk CA CL hke
        go_wp2_with fail
        go_ret2
        exact ⟨_, rfl, Gn.Own.nil _ _, HB.out⟩
    · have hlt1 : ¬ (q : Int) < N := by omega
      obtain rfl : q = N := by omega
      have HEND := Lib.hid (join_end HJ.out (by rw [HN.out]; exact HE.out))
      rw [HN.out, HZ.out.1, HZ.out.2] at HEND
      rcases HEND.out with ⟨h1, rfl, rfl⟩ | ⟨h1, h2, rfl, rfl⟩ | ⟨h1, h2, rfl, rfl⟩
      · have h1' : (4000 : Int) < Z := by omega
        clear HEND
        go_wp2_with fail
        go_ret2
        exact ⟨_, rfl, Gn.Own.nil _ _, HB.out⟩
      · have h1' : ¬ (4000 : Int) < Z := by omega
        have h2' : (64 : Int) < D := by omega
        clear HEND
        go_wp2_with fail
        go_ret2
        exact ⟨_, rfl, Gn.Own.nil _ _, HB.out⟩
      · have h1' : ¬ (4000 : Int) < Z := by omega
        have h2' : ¬ (64 : Int) < D := by omega
        have R := node_make wr Z (by omega) h1
        have HO := Lib.hid (own_made wr Z (by omega) h1)
        obtain ⟨M, hM⟩ : ∃ M, M = madeCells ndz.cells (Z * 5) := ⟨_, rfl⟩
        rw [← hM] at R HO
        have HU := Lib.hid (up_new wr (.cells M 59))
        obtain ⟨wz, hwz⟩ : ∃ wz, wz = wr.alloc (.cells M 59) := ⟨_, rfl⟩
        rw [← hwz] at R HO HU
        clear hwz
        obtain ⟨p0, p1, p2, p3, p4⟩ : (wz.cell? ⟨wr.heap.size, 0, none⟩ = some (.int .i64 0) ∧ wz.cell? ⟨wr.heap.size, 1, none⟩ = some (.string ⟨#[]⟩) ∧ wz.cell? ⟨wr.heap.size, 2, none⟩ = some (.int .i64 0) ∧ wz.cell? ⟨wr.heap.size, 3, none⟩ = some (.string ⟨#[]⟩) ∧ wz.cell? ⟨wr.heap.size, 4, none⟩ = some (.int .i64 0)) := by
          obtain ⟨b', o', e', y0, y1, y2, y3, y4⟩ := rdN_cells (Gn.Own.rd ndL HO.out) (Below.refl _ _) (i := 0) rfl
          obtain ⟨rfl, rfl⟩ : wr.heap.size = b' ∧ 0 = o' := by injection e' with e'; injection e' with e1 e2; exact ⟨e1, e2⟩
          exact ⟨y0, y1, y2, y3, y4⟩
        have hfz := own_melt HO.out rfl
        have HW := Lib.hid (own_whole (i := 0) ⟨6, ⟨#[]⟩, 0, ⟨#[]⟩, (Z : Nat)⟩ HO.out rfl rfl)
        simp only [Nat.zero_mul, Nat.zero_add, List.set_cons_zero] at HW
        have hgw : w.heap.size ≤ wr.heap.size := HB.out.size
        have hg0 := Nat.le_refl wr.heap.size
        have HUW := Lib.hid (HU.out.setCell (p := ⟨wr.heap.size, 0, none⟩) hg0 (.int .i64 6) |>.setCell (p := ⟨wr.heap.size, 1, none⟩) hg0 (.string ⟨#[]⟩) |>.setCell (p := ⟨wr.heap.size, 2, none⟩) hg0 (.int .i64 0) |>.setCell (p := ⟨wr.heap.size, 3, none⟩) hg0 (.string ⟨#[]⟩) |>.setCell (p := ⟨wr.heap.size, 4, none⟩) hg0 (.int .i64 (Z : Nat)))
        have HZN : Hid (jsz ls q = Z) := Lib.hid HZ.out.1
        have HEE0 := Lib.hid HE.out
        obtain ⟨G, hG⟩ : ∃ G, G = wr.heap.size := ⟨_, rfl⟩
        have HGW : Hid (w.heap.size ≤ G) := Lib.hid (by rw [hG]; exact hgw)
        have HW' : Hid (OwnN _ G _ _) := Lib.hid (by rw [hG]; exact HW.out)
        have HBW : Hid (Below w.heap.size w wr ∧ G = wr.heap.size) := Lib.hid ⟨HB.out, hG⟩
        have HUW' : Hid (Below G wr _) := Lib.hid (by rw [hG]; exact HUW.out)
        obtain ⟨wo, hwo⟩ : ∃ wo, wo = wr := ⟨_, rfl⟩
        rw [← hwo] at HBW
        have HUW2 : Hid (Below G wo _) := Lib.hid (by rw [hwo]; exact HUW'.out)
        clear hM HEND HZ HE HW hG hgw HUW HUW' hwo hg0
        go_wp2_with fail
        clear p0 p1 p2 p3 p4 hfz R HO HU
        go_loopw [16, 68] (fun t i wx => ∃ (j : Nat), i = .int .i64 (j : Nat) ∧ j ≤ q ∧ Hid (OwnN wx G t (⟨6, ⟨#[]⟩, 0, ⟨#[]⟩, (Z : Nat)⟩ :: jpt ys ls j)) ∧ Hid (Below G wo wx)) (fun _ i _ => q - (intOf i).toNat)
        case atStart => exact ⟨0, by rfl, by omega, HW', HUW2⟩
        case round =>
          obtain ⟨j, rfl, hj, HO2, HBG⟩ := hrel
          have HBX := Lib.hid (HBW.out.1.trans (HBG.out.mono HGW.out))
          have hGx : G ≤ wr.heap.size := by have := HBG.out.size; have := HBW.out.2; omega
          obtain ⟨ta, tc, rfl, _⟩ := Gn.Rd.form (Gn.Own.rd ndL HO2.out)
          obtain ⟨A, hA⟩ : ∃ A, ((⟨6, ⟨#[]⟩, 0, ⟨#[]⟩, (Z : Nat)⟩ : Nd) :: jpt ys ls j) = A := ⟨_, rfl⟩
          obtain ⟨m, hm⟩ : ∃ m, A.length = m := ⟨_, rfl⟩
          rw [hA, hm] at HO2 ⊢
          have hmj : m = jsz ls j := by
            rw [← hm, ← hA, List.length_cons, Nat.add_comm]
            exact jpt_len ys ls (by rw [HKY.out, HN.out]) j (by rw [HN.out]; exact hj)
          by_cases hlt2 : j < q
          · have hlt3 : (j : Int) < q := by omega
            obtain ⟨s, hs⟩ : ∃ s, ss[j]? = some s := ⟨_, List.getElem?_eq_getElem (by have := HKS.out; omega)⟩
            obtain ⟨l, hl⟩ : ∃ l, ls[j]? = some l := ⟨_, List.getElem?_eq_getElem (by have := HN.out; omega)⟩
            obtain ⟨y, hy⟩ : ∃ y, ys[j]? = some y := ⟨_, List.getElem?_eq_getElem (by have := HKY.out; omega)⟩
            obtain ⟨b1, o1, rfl, c1⟩ := rdS_cell HS.out HBX.out hs
            obtain ⟨b2, o2, rfl, _⟩ := rdT_cell HK.out HBX.out hy
            obtain ⟨hrs, hok⟩ := HS.out.each j s l hs hl
            obtain ⟨sa, sn, sc⟩ := s
            have HRS := Lib.hid (Gn.Rd.later hrs HBX.out)
            obtain ⟨_, _, e0, _⟩ := Gn.Rd.form hrs
            obtain rfl : sn = l.length := by injection e0
            unfold Sl.val at HRS
            have hcl : chk l = 0 := by
              have := jerr_part HEE0.out hlt2
              rwa [getD_at hl] at this
            obtain ⟨x, l', rfl⟩ : ∃ x l', l = x :: l' := by
              have := (chk_zero_len hcl).1
              cases l with
              | nil => simp at this
              | cons x l' => exact ⟨x, l', rfl⟩
            have hsum : m + (x :: l').length ≤ 4000 := by
              rw [hmj, ← jsz_succ ls j _ hl]
              have := jsz_le ls (j := j + 1) (k := q) (by omega)
              have := HZN.out
              omega
            obtain ⟨L, hLL⟩ : ∃ L, (x :: l').length = L := ⟨_, rfl⟩
            have hLp : 1 ≤ L := by rw [← hLL]; simp
            have HLL := Lib.hid hLL
            rw [hLL] at HRS hsum c1
            have HYQ := Lib.hid hy
            have HAN : Hid ((⟨6, ⟨#[]⟩, 0, ⟨#[]⟩, (Z : Nat)⟩ : Nd) :: jpt ys ls (j + 1) = A ++ setK y (x :: l')) := Lib.hid (by rw [jpt_succ ys ls j y _ hy hl, ← hA]; rfl)
            have HM := Lib.hid hm
            clear e0 hrs hok hs hl hy hcl hmj hA hm hLL
            simp only at c1
            go_wp2_with (at_builtin
                         refine Gn.wpList_app ndL ndY rfl (.tmp 75) (.tmp 76) rfl G _ A rfl HO2.out _ (x :: l') rfl HRS.out (by rw [HM.out, HLL.out]; omega) hGx ?_
                         intro v1 w6 ho6 hg6 hl6 hn6
                         have HBG6 := Lib.hid (HBG.out.trans (Gn.below_of_own HO2.out hg6 hGx))
                         have HB6 := Lib.hid (HBW.out.1.trans (HBG6.out.mono HGW.out))
                         obtain ⟨b3, o3, e3, c3⟩ := rdT_cell HK.out HB6.out HYQ.out
                         obtain ⟨rfl, rfl⟩ : b2 = b3 ∧ o2 = o3 := by injection e3 with e3; injection e3 with e1 e2; exact ⟨e1, e2⟩
                         obtain ⟨a6, c6, rfl, _⟩ := Gn.Rd.form (Gn.Own.rd ndL ho6)
                         obtain ⟨N6, hN6⟩ : ∃ n, (A ++ x :: l').length = n := ⟨_, rfl⟩
                         have hN6' : N6 = m + L := by rw [← hN6, List.length_append, HM.out, HLL.out]
                         rw [hN6] at ho6
                         obtain ⟨g6, rfl⟩ := own_addr ho6 (by rw [hN6]; omega)
                         have hfz := own_melt ho6 hN6
                         have c4 : w6.cell? ⟨g6, m * 5 + 1, none⟩ = some (.string x.key) := by
                           obtain ⟨b', o', e', y0, y1, y2, y3, y4⟩ := rdN_cells (hN6 ▸ Gn.Own.rd ndL ho6) (Below.refl _ _) (i := m) (x := x) (by rw [← HM.out, List.getElem?_append_right (Nat.le_refl _), Nat.sub_self]; rfl)
                           obtain ⟨rfl, rfl⟩ : g6 = b' ∧ 0 = o' := by injection e' with e'; injection e' with e1 e2; exact ⟨e1, e2⟩
                           rw [Nat.zero_add] at y1; exact y1
                         have hmN : (m : Int) < (N6 : Nat) := by omega
                         have HP := Lib.hid (own_put (i := m) (x := x) (m := 1) (u := .string y) (x' := ⟨x.kind, y, x.n, x.s, x.size⟩) ho6 hN6 (by rw [← HM.out, List.getElem?_append_right (Nat.le_refl _), Nat.sub_self]; rfl) rfl (by omega))
                         have HBP := Lib.hid (HBG6.out.setCell (p := ⟨g6, m * 5 + 1, none⟩) (ho6.lt g6 rfl).1 (.string y))
                         clear e3 hg6 hl6 hn6 hN6' ho6)
            have HFX := Lib.hid HP.out
            go_roundw
            case rel =>
              refine ⟨j + 1, by go_num, by omega, Lib.hid ?_, HBP⟩
              rw [HAN.out]
              have := HP.out
              rw [← HM.out, set_key] at this
              rw [HM.out] at this
              exact this
            case measure => simp [intOf]; omega
          · have hlt3 : ¬ (j : Int) < q := by omega
            obtain rfl : j = q := by omega
            have HFIN := Lib.hid (Gn.Own.lower HO2.out HGW.out)
            clear hmj hm
            subst hA
            go_wp2_with fail
            go_ret2
            exact ⟨_, rfl, HFIN.out, HBX.out⟩

set_option maxHeartbeats 8000000 in
theorem join7 (kv lv : Value) (ys : List ByteArray) (ss : List Sl) (ls : List (List Nd)) (w : World) (hK : RdT w w.heap.size kv ys) (hS : RdS w w.heap.size lv ss ls) (hys : ∀ y ∈ ys, y.size ≤ maxLen) (hlen : ys.length = ls.length) (hll : ls.length ≤ 100000) (T : Tab w) (r : List Nd) (x : Int) (hr : JoinIs 7 ys ls r x) :
    Calls Tryd.prog 33 #[.int .i64 7, kv, lv] w fun e w' => JPost w r x e w' := by
  have HK := Lib.hid hK
  have HS := Lib.hid hS
  have HT := Lib.hid T
  have HJ := Lib.hid hr
  have HY := Lib.hid hys
  have hsl := hS.len
  obtain ⟨kb, kc, rfl, _⟩ := Gn.Rd.form hK
  obtain ⟨lb, lc, rfl, _⟩ := Gn.Rd.form hS.rd
  obtain ⟨N, hN⟩ : ∃ N, ls.length = N := ⟨_, rfl⟩
  have hky : ys.length = N := hlen.trans hN
  have hks : ss.length = N := hsl.trans hN
  rw [hky] at HK ⊢
  rw [hks] at HS ⊢
  have HN := Lib.hid hN
  have hN0 : N ≤ 100000 := by omega
  have HKY := Lib.hid hky
  have HKS := Lib.hid hks
  clear hK hS T hr hys hsl hll hlen hN hky hks
  go_enter Tryd.func33, Tryd.ntmps33
  go_wp2_with fail
  have HK1 := Lib.hid (fun w => keysof_obj w)
  ((with_reducible refine (HK1.out _).mono ?_); rintro e w2' ⟨m, g, rfl, hset, hg, b2⟩)
  obtain ⟨w2, hw2⟩ : ∃ w2, w2 = w := ⟨_, rfl⟩
  rw [← hw2] at hset
  have HW2 := Lib.hid hw2
  have HSET := Lib.hid hset
  have HB2 := Lib.hid b2
  have hgg : w.heap.size ≤ g := hg
  have hmm : w.heap.size ≤ m := by rw [← hw2]; exact hset.1
  clear hset hg b2 hw2
  go_wp2_with fail
  clear HK1
  go_loopw [8, 9, 24] (fun z d i wr => ∃ (q Z D : Nat), z = .int .i64 (Z : Nat) ∧ d = .int .i64 (D : Nat) ∧ i = .int .i64 (q : Nat) ∧ q ≤ N ∧ Z ≤ 1 + 4000 * q ∧ 1 ≤ Z ∧ D ≤ 65 ∧ Hid (jsz ls q = Z ∧ jdp ls q = D) ∧ Hid (jerr 7 ys ls q = 0) ∧ Hid (SetV wr w2.heap.size m g (ys.take q)) ∧ Hid (Below w.heap.size w wr)) (fun _ _ i _ => N - (intOf i).toNat)
  case atStart => exact ⟨0, 1, 1, by rfl, by rfl, by rfl, by omega, by omega, by omega, by omega, Lib.hid ⟨jsz_zero ls, rfl⟩, Lib.hid rfl, HSET, HB2⟩
  case round =>
    obtain ⟨q, Z, D, rfl, rfl, rfl, hq, hZ, hZ1, hD, HZ, HE, HSV, HB⟩ := hrel
    by_cases hlt : q < N
    · have hlt1 : (q : Int) < N := by omega
      obtain ⟨s, hs⟩ : ∃ s, ss[q]? = some s := ⟨_, List.getElem?_eq_getElem (by have := HKS.out; omega)⟩
      obtain ⟨l, hl⟩ : ∃ l, ls[q]? = some l := ⟨_, List.getElem?_eq_getElem (by have := HN.out; omega)⟩
      obtain ⟨y, hy⟩ : ∃ y, ys[q]? = some y := ⟨_, List.getElem?_eq_getElem (by have := HKY.out; omega)⟩
      obtain ⟨b1, o1, rfl, c1⟩ := rdS_cell HS.out HB.out hs
      obtain ⟨b2, o2, rfl, c2⟩ := rdT_cell HK.out HB.out hy
      obtain ⟨hrs, hok⟩ := HS.out.each q s l hs hl
      obtain ⟨sa, sn, sc⟩ := s
      have HRS := Lib.hid hrs
      obtain ⟨_, _, e0, _⟩ := Gn.Rd.form hrs
      obtain rfl : sn = l.length := by injection e0
      have CL := Lib.hid (fun (wb : World) (hb : Below w.heap.size w wb) (ee : Int) (dd : Nat) (h1 : chk l = ee) (h2 : dpt l = dd) => look _ l wb (Gn.Rd.later HRS.out hb) hok (HT.out.later hb) ee dd h1 h2)
      have HL := Lib.hid hl
      have HYQ := Lib.hid hy
      simp only at c1
      unfold Sl.val at CL
      have CA := Lib.hid (asks_obj y (ys.take q) _ m g wr (HT.out.later HB.out) (HY.out y (List.mem_of_getElem? hy)) HSV.out)
      obtain ⟨ke1, hke⟩ : ∃ k1, okey (ys.take q) y = k1 := ⟨_, rfl⟩
      rw [hke] at CA
      clear hrs hok e0 hs hl hy HRS
      go_wp2_with fail
      ((with_reducible refine (CA.out).mono ?_); rintro e w5 ⟨rfl, ht5, hs5⟩)
      have HB5 := Lib.hid (ht5.below (B := w.heap.size) HB.out.size (fun i hi => by rw [hi]; exact hmm))
      have HBB := Lib.hid (HB.out.trans HB5.out)
      clear ht5
      by_cases hk : ke1 = 0
      · have HKK : Hid (okey (ys.take q) y = 0) := Lib.hid (hke.trans hk)
        have HSV5 : Hid (SetV w5 w2.heap.size m g (ys.take (q + 1))) := Lib.hid (by rw [take_at HYQ.out]; exact hs5 hk)
        subst hk
        clear CA hke hs5
        obtain ⟨ee, hee⟩ : ∃ ee, chk l = ee := ⟨_, rfl⟩
        obtain ⟨dd, hdd⟩ : ∃ dd, dpt l = dd := ⟨_, rfl⟩
        have CL2 := Lib.hid (fun (wb : World) (hb : Below w.heap.size w wb) => CL.out wb hb ee dd hee hdd)
        have hdd2 : dd ≤ 64 := by rw [← hdd]; exact (chk_fit l).2
        have HCE : Hid (jerr 7 ys ls (q + 1) = ee) := Lib.hid (by rw [jerr_chk 7 ys ls q HE.out (by rw [ke, if_pos rfl, getD_at HYQ.out]; exact HKK.out), getD_at HL.out]; exact hee)
        have HEE := Lib.hid hee
        have HDD := Lib.hid hdd
        clear hee hdd CL
        go_wp2_with fail
        ((with_reducible refine (CL2.out _ HBB.out).mono ?_); rintro e w6 ⟨rfl, b6⟩)
        have HB4 := Lib.hid (up HBB.out b6)
        have HSV4 := Lib.hid (HSV5.out.later b6)
        clear b6
        by_cases h0 : ee = 0
        · have hln := chk_zero_len (HEE.out.trans h0)
          obtain ⟨nl, hnl⟩ : ∃ n, l.length = n := ⟨_, rfl⟩
          rw [hnl] at hln
          have HJS : Hid (jsz ls (q + 1) = Z + nl ∧ jdp ls (q + 1) = max D (dd + 1)) := Lib.hid ⟨by rw [jsz_succ ls q l HL.out, HZ.out.1, hnl], by rw [jdp, HZ.out.2, getD_at HL.out, HDD.out]⟩
          have HCE0 : Hid (jerr 7 ys ls (q + 1) = 0) := Lib.hid (HCE.out.trans h0)
          have wr1 : (Z : Int) + nl ≤ 500000000 := by omega
          rw [hnl]
          subst h0
          clear hnl HEE CL2 HCE c1 c2
          go_wp2_with fail
          go_roundw
          case rel => exact ⟨q + 1, Z + nl, max D (dd + 1), by go_num, by congr 1; omega, by go_num, by omega, by omega, by omega, by omega, HJS, HCE0, HSV4, HB4⟩
          case measure => simp [intOf]; omega
        · have h0' : ((ee : Int) != 0) = true := by simpa using h0
          obtain ⟨rfl, rfl⟩ := join_err HJ.out (by have := HN.out; omega) HCE.out h0
          clear h0 CL2 HCE HEE
          go_wp2_with fail
          go_ret2
          exact ⟨_, rfl, Gn.Own.nil _ _, HB4.out⟩
      · have hk' : ((ke1 : Int) != 0) = true := by simpa using hk
        obtain ⟨rfl, rfl⟩ := join_err HJ.out (q := q) (by have := HN.out; omega) ((jerr_key 7 ys ls q HE.out (by rw [ke, if_pos rfl, getD_at HYQ.out, hke]; exact hk)).trans (by rw [ke, if_pos rfl, getD_at HYQ.out, hke])) hk
        clear hk CA CL hke hs5
        go_wp2_with fail
        go_ret2
        exact ⟨_, rfl, Gn.Own.nil _ _, HBB.out⟩
    · have hlt1 : ¬ (q : Int) < N := by omega
      obtain rfl : q = N := by omega
      have HEND := Lib.hid (join_end HJ.out (by rw [HN.out]; exact HE.out))
      rw [HN.out, HZ.out.1, HZ.out.2] at HEND
      rcases HEND.out with ⟨h1, rfl, rfl⟩ | ⟨h1, h2, rfl, rfl⟩ | ⟨h1, h2, rfl, rfl⟩
      · have h1' : (4000 : Int) < Z := by omega
        clear HEND
        go_wp2_with fail
        go_ret2
        exact ⟨_, rfl, Gn.Own.nil _ _, HB.out⟩
      · have h1' : ¬ (4000 : Int) < Z := by omega
        have h2' : (64 : Int) < D := by omega
        clear HEND
        go_wp2_with fail
        go_ret2
        exact ⟨_, rfl, Gn.Own.nil _ _, HB.out⟩
      · have h1' : ¬ (4000 : Int) < Z := by omega
        have h2' : ¬ (64 : Int) < D := by omega
        have R := node_make wr Z (by omega) h1
        have HO := Lib.hid (own_made wr Z (by omega) h1)
        obtain ⟨M, hM⟩ : ∃ M, M = madeCells ndz.cells (Z * 5) := ⟨_, rfl⟩
        rw [← hM] at R HO
        have HU := Lib.hid (up_new wr (.cells M 59))
        obtain ⟨wz, hwz⟩ : ∃ wz, wz = wr.alloc (.cells M 59) := ⟨_, rfl⟩
        rw [← hwz] at R HO HU
        clear hwz
        obtain ⟨p0, p1, p2, p3, p4⟩ : (wz.cell? ⟨wr.heap.size, 0, none⟩ = some (.int .i64 0) ∧ wz.cell? ⟨wr.heap.size, 1, none⟩ = some (.string ⟨#[]⟩) ∧ wz.cell? ⟨wr.heap.size, 2, none⟩ = some (.int .i64 0) ∧ wz.cell? ⟨wr.heap.size, 3, none⟩ = some (.string ⟨#[]⟩) ∧ wz.cell? ⟨wr.heap.size, 4, none⟩ = some (.int .i64 0)) := by
          obtain ⟨b', o', e', y0, y1, y2, y3, y4⟩ := rdN_cells (Gn.Own.rd ndL HO.out) (Below.refl _ _) (i := 0) rfl
          obtain ⟨rfl, rfl⟩ : wr.heap.size = b' ∧ 0 = o' := by injection e' with e'; injection e' with e1 e2; exact ⟨e1, e2⟩
          exact ⟨y0, y1, y2, y3, y4⟩
        have hfz := own_melt HO.out rfl
        have HW := Lib.hid (own_whole (i := 0) ⟨7, ⟨#[]⟩, 0, ⟨#[]⟩, (Z : Nat)⟩ HO.out rfl rfl)
        simp only [Nat.zero_mul, Nat.zero_add, List.set_cons_zero] at HW
        have hgw : w.heap.size ≤ wr.heap.size := HB.out.size
        have hg0 := Nat.le_refl wr.heap.size
        have HUW := Lib.hid (HU.out.setCell (p := ⟨wr.heap.size, 0, none⟩) hg0 (.int .i64 7) |>.setCell (p := ⟨wr.heap.size, 1, none⟩) hg0 (.string ⟨#[]⟩) |>.setCell (p := ⟨wr.heap.size, 2, none⟩) hg0 (.int .i64 0) |>.setCell (p := ⟨wr.heap.size, 3, none⟩) hg0 (.string ⟨#[]⟩) |>.setCell (p := ⟨wr.heap.size, 4, none⟩) hg0 (.int .i64 (Z : Nat)))
        have HZN : Hid (jsz ls q = Z) := Lib.hid HZ.out.1
        have HEE0 := Lib.hid HE.out
        obtain ⟨G, hG⟩ : ∃ G, G = wr.heap.size := ⟨_, rfl⟩
        have HGW : Hid (w.heap.size ≤ G) := Lib.hid (by rw [hG]; exact hgw)
        have HW' : Hid (OwnN _ G _ _) := Lib.hid (by rw [hG]; exact HW.out)
        have HBW : Hid (Below w.heap.size w wr ∧ G = wr.heap.size) := Lib.hid ⟨HB.out, hG⟩
        have HUW' : Hid (Below G wr _) := Lib.hid (by rw [hG]; exact HUW.out)
        obtain ⟨wo, hwo⟩ : ∃ wo, wo = wr := ⟨_, rfl⟩
        rw [← hwo] at HBW
        have HUW2 : Hid (Below G wo _) := Lib.hid (by rw [hwo]; exact HUW'.out)
        clear hM HEND HZ HE HW hG hgw HUW HUW' hwo hg0
        go_wp2_with fail
        clear p0 p1 p2 p3 p4 hfz R HO HU
        go_loopw [16, 68] (fun t i wx => ∃ (j : Nat), i = .int .i64 (j : Nat) ∧ j ≤ q ∧ Hid (OwnN wx G t (⟨7, ⟨#[]⟩, 0, ⟨#[]⟩, (Z : Nat)⟩ :: jpt ys ls j)) ∧ Hid (Below G wo wx)) (fun _ i _ => q - (intOf i).toNat)
        case atStart => exact ⟨0, by rfl, by omega, HW', HUW2⟩
        case round =>
          obtain ⟨j, rfl, hj, HO2, HBG⟩ := hrel
          have HBX := Lib.hid (HBW.out.1.trans (HBG.out.mono HGW.out))
          have hGx : G ≤ wr.heap.size := by have := HBG.out.size; have := HBW.out.2; omega
          obtain ⟨ta, tc, rfl, _⟩ := Gn.Rd.form (Gn.Own.rd ndL HO2.out)
          obtain ⟨A, hA⟩ : ∃ A, ((⟨7, ⟨#[]⟩, 0, ⟨#[]⟩, (Z : Nat)⟩ : Nd) :: jpt ys ls j) = A := ⟨_, rfl⟩
          obtain ⟨m, hm⟩ : ∃ m, A.length = m := ⟨_, rfl⟩
          rw [hA, hm] at HO2 ⊢
          have hmj : m = jsz ls j := by
            rw [← hm, ← hA, List.length_cons, Nat.add_comm]
            exact jpt_len ys ls (by rw [HKY.out, HN.out]) j (by rw [HN.out]; exact hj)
          by_cases hlt2 : j < q
          · have hlt3 : (j : Int) < q := by omega
            obtain ⟨s, hs⟩ : ∃ s, ss[j]? = some s := ⟨_, List.getElem?_eq_getElem (by have := HKS.out; omega)⟩
            obtain ⟨l, hl⟩ : ∃ l, ls[j]? = some l := ⟨_, List.getElem?_eq_getElem (by have := HN.out; omega)⟩
            obtain ⟨y, hy⟩ : ∃ y, ys[j]? = some y := ⟨_, List.getElem?_eq_getElem (by have := HKY.out; omega)⟩
            obtain ⟨b1, o1, rfl, c1⟩ := rdS_cell HS.out HBX.out hs
            obtain ⟨b2, o2, rfl, _⟩ := rdT_cell HK.out HBX.out hy
            obtain ⟨hrs, hok⟩ := HS.out.each j s l hs hl
            obtain ⟨sa, sn, sc⟩ := s
            have HRS := Lib.hid (Gn.Rd.later hrs HBX.out)
            obtain ⟨_, _, e0, _⟩ := Gn.Rd.form hrs
            obtain rfl : sn = l.length := by injection e0
            unfold Sl.val at HRS
            have hcl : chk l = 0 := by
              have := jerr_part HEE0.out hlt2
              rwa [getD_at hl] at this
            obtain ⟨x, l', rfl⟩ : ∃ x l', l = x :: l' := by
              have := (chk_zero_len hcl).1
              cases l with
              | nil => simp at this
              | cons x l' => exact ⟨x, l', rfl⟩
            have hsum : m + (x :: l').length ≤ 4000 := by
              rw [hmj, ← jsz_succ ls j _ hl]
              have := jsz_le ls (j := j + 1) (k := q) (by omega)
              have := HZN.out
              omega
            obtain ⟨L, hLL⟩ : ∃ L, (x :: l').length = L := ⟨_, rfl⟩
            have hLp : 1 ≤ L := by rw [← hLL]; simp
            have HLL := Lib.hid hLL
            rw [hLL] at HRS hsum c1
            have HYQ := Lib.hid hy
            have HAN : Hid ((⟨7, ⟨#[]⟩, 0, ⟨#[]⟩, (Z : Nat)⟩ : Nd) :: jpt ys ls (j + 1) = A ++ setK y (x :: l')) := Lib.hid (by rw [jpt_succ ys ls j y _ hy hl, ← hA]; rfl)
            have HM := Lib.hid hm
            clear e0 hrs hok hs hl hy hcl hmj hA hm hLL
            simp only at c1
            go_wp2_with (at_builtin
                         refine Gn.wpList_app ndL ndY rfl (.tmp 75) (.tmp 76) rfl G _ A rfl HO2.out _ (x :: l') rfl HRS.out (by rw [HM.out, HLL.out]; omega) hGx ?_
                         intro v1 w6 ho6 hg6 hl6 hn6
                         have HBG6 := Lib.hid (HBG.out.trans (Gn.below_of_own HO2.out hg6 hGx))
                         have HB6 := Lib.hid (HBW.out.1.trans (HBG6.out.mono HGW.out))
                         obtain ⟨b3, o3, e3, c3⟩ := rdT_cell HK.out HB6.out HYQ.out
                         obtain ⟨rfl, rfl⟩ : b2 = b3 ∧ o2 = o3 := by injection e3 with e3; injection e3 with e1 e2; exact ⟨e1, e2⟩
                         obtain ⟨a6, c6, rfl, _⟩ := Gn.Rd.form (Gn.Own.rd ndL ho6)
                         obtain ⟨N6, hN6⟩ : ∃ n, (A ++ x :: l').length = n := ⟨_, rfl⟩
                         have hN6' : N6 = m + L := by rw [← hN6, List.length_append, HM.out, HLL.out]
                         rw [hN6] at ho6
                         obtain ⟨g6, rfl⟩ := own_addr ho6 (by rw [hN6]; omega)
                         have hfz := own_melt ho6 hN6
                         have c4 : w6.cell? ⟨g6, m * 5 + 1, none⟩ = some (.string x.key) := by
                           obtain ⟨b', o', e', y0, y1, y2, y3, y4⟩ := rdN_cells (hN6 ▸ Gn.Own.rd ndL ho6) (Below.refl _ _) (i := m) (x := x) (by rw [← HM.out, List.getElem?_append_right (Nat.le_refl _), Nat.sub_self]; rfl)
                           obtain ⟨rfl, rfl⟩ : g6 = b' ∧ 0 = o' := by injection e' with e'; injection e' with e1 e2; exact ⟨e1, e2⟩
                           rw [Nat.zero_add] at y1; exact y1
                         have hmN : (m : Int) < (N6 : Nat) := by omega
                         have HP := Lib.hid (own_put (i := m) (x := x) (m := 1) (u := .string y) (x' := ⟨x.kind, y, x.n, x.s, x.size⟩) ho6 hN6 (by rw [← HM.out, List.getElem?_append_right (Nat.le_refl _), Nat.sub_self]; rfl) rfl (by omega))
                         have HBP := Lib.hid (HBG6.out.setCell (p := ⟨g6, m * 5 + 1, none⟩) (ho6.lt g6 rfl).1 (.string y))
                         clear e3 hg6 hl6 hn6 hN6' ho6)
            have HFX := Lib.hid HP.out
            go_roundw
            case rel =>
              refine ⟨j + 1, by go_num, by omega, Lib.hid ?_, HBP⟩
              rw [HAN.out]
              have := HP.out
              rw [← HM.out, set_key] at this
              rw [HM.out] at this
              exact this
            case measure => simp [intOf]; omega
          · have hlt3 : ¬ (j : Int) < q := by omega
            obtain rfl : j = q := by omega
            have HFIN := Lib.hid (Gn.Own.lower HO2.out HGW.out)
            clear hmj hm
            subst hA
            go_wp2_with fail
            go_ret2
            exact ⟨_, rfl, HFIN.out, HBX.out⟩
end Go.Proofs.YtgmdjofnkbaflaaDoor
