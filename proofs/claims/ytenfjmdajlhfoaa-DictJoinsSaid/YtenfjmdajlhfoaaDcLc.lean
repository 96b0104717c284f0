/- The walk of DictSplits. -/
import Derived.Test.YtenfjmdajlhfoaaDcLb
namespace Go.Proofs.Ytenfjmdajlhfoaa
open Go.RowKit
set_option linter.unusedVariables false
set_option maxRecDepth 100000

theorem cells_tx (l : List ByteArray) : Gn.cells txc l = l.map Value.string := by
  induction l with
  | nil => rfl
  | cons x l ih => rw [Gn.cells_cons, ih]; rfl
theorem OwnT.stored {w : World} {base g cap n : Nat} {l : List ByteArray} (h : OwnT w base (.slice (some ⟨g, 0, none⟩) n cap) l) (hn : l.length = n) (k : Nat) (x : ByteArray) :
    OwnT (w.setCell ⟨g, k, none⟩ (.string x)) base (.slice (some ⟨g, 0, none⟩) n cap) (l.set k x) := by
  subst hn
  unfold OwnT Gn.Own at h ⊢
  have := (h.stored k (.string x)).1
  rw [List.length_set]
  rw [cells_tx] at this ⊢
  rw [List.map_set]
  exact this
theorem OwnT.cell {w : World} {base g cap n : Nat} {l : List ByteArray} (h : OwnT w base (.slice (some ⟨g, 0, none⟩) n cap) l) (hn : l.length = n) {k : Nat} {x : ByteArray} (hk : l[k]? = some x) :
    w.cell? ⟨g, k, none⟩ = some (.string x) := by
  subst hn
  have hl := (List.getElem?_eq_some_iff.1 hk).1
  unfold OwnT Gn.Own at h
  rw [h.cellAt k (by omega), cells_tx, List.getElem?_map, hk]
  rfl
theorem OwnT.melt {w : World} {base g cap n : Nat} {l : List ByteArray} (h : OwnT w base (.slice (some ⟨g, 0, none⟩) n cap) l) (hn : l.length = n) (k : Nat) : w.frozen? ⟨g, k, none⟩ = false := by
  subst hn
  exact World.ownsRow.frozenAt h k
theorem OwnT.form {w : World} {base n c : Nat} {ad : Option Addr} {l : List ByteArray} (h : OwnT w base (.slice ad n c) l) (hn : 0 < l.length) : ∃ g, ad = some ⟨g, 0, none⟩ ∧ base ≤ g := by
  rcases h.2 with ⟨_, h2⟩ | ⟨g, cap, cur, e, hg, _⟩
  · omega
  · injection e with e1 e2 e3
    exact ⟨g, e1, hg⟩
set_option maxHeartbeats 8000000 in
theorem dictSplits (v : Value) (d : List ByteArray) (u : Value) (l : List Nat) (w : World) (hd : TextsIn w v d) (hn : Rd w w.heap.size u l) :
    Calls Try.prog 3 #[v, u] w fun e w' => e = .returned (.bool true) ∧ Below w.heap.size w w' := by
  obtain ⟨L, hL⟩ : ∃ L, cutL d = L := ⟨_, rfl⟩
  have HC := Lib.hid (fun w1 (hb : Below w.heap.size w w1) => lCut v d w1 (hd.later hb) L hL)
  have hLl : L.length ≤ 60 := by rw [← hL]; exact cutL_len d
  have hLs : ∀ x ∈ L, x.size ≤ 200 := by rw [← hL]; exact cutL_size d
  have hll := hn.len
  unfold maxLen at hll
  obtain ⟨aa, ca, rfl, pa, qa, _⟩ := id hn
  unfold maxLen at qa
  obtain ⟨j, hj⟩ : ∃ j, min l.length 60 = j := ⟨_, rfl⟩
  have M := min_is l.length 60 j (by omega)
  obtain ⟨na, n2⟩ : j ≤ l.length ∧ j ≤ 60 := by omega
  have k1 : (j : Int) ≤ (ca : Int) := by omega
  have HA := Lib.hid (hn.takes rfl j na)
  have hnl : (l.take j).length ≤ 60 := by rw [List.length_take]; omega
  generalize l.take j = N at *
  have HI := Lib.hid (fun w1 (hb : Below w.heap.size w w1) => copyBytes (.slice aa j ca) N w1 (HA.out.later (Nat.le_refl _) hb) (by omega))
  obtain ⟨da, dc, rfl, _⟩ := Gn.Rd.form hd.rd
  have hbytes := enL_bound L hLl hLs
  have HLS := Lib.hid hLs
  clear hd hn hL hj hLs
  go_enter Try.func3, Try.ntmps3
  go_wp2_with fail
  go_region_held3 (fun _ => True) (trivial)
    ((first
      | (go_at_call 11; refine (HC.out _ (Below.refl _ _).drew).mono ?_; rintro e w1 ⟨r1, rfl, o1, b1⟩; have b1' : Below w.heap.size w w1 := (by first | exact b1 | exact undrew b1); have B1 := Lib.hid b1'; have O1 := Lib.hid o1; clear b1 b1' o1)
      | (go_at_call 12; refine (HI.out _ (by first | exact B1.out | exact B1.out.drew)).mono ?_; rintro e w2 ⟨r2, rfl, o2, b2⟩; have b2' : Below w1.heap.size w1 w2 := (by first | exact b2 | exact undrew b2); have B2 := Lib.hid (up B1.out b2'); have O2 := Lib.hid o2; have O12 := Lib.hid (OwnT.later O1.out b2'); clear b2 b2' o2 O1 B1)))
  all_goals
    obtain ⟨⟨D, M0⟩, hDM⟩ : ∃ x, Dc.spl [] [] L = x := ⟨_, rfl⟩
    have hls := Dc.spl_len [] L
    rw [hDM] at hls
    have hDl : D.length ≤ 60 := by simp at hls; omega
    have hMl : (ofN M0).length ≤ 60 := by rw [ofN_len]; simp at hls; omega
    have HS := Lib.hid (split _ L w2 (RdT.of O12.out) (by omega) _ hDM)
    have HDM := Lib.hid hDM
    clear hDM hls
    go_wp2_with fail
    refine HS.out.mono ?_
    rintro e w3 ⟨dv, nv, rfl, od, on, b3⟩
    have HT := Lib.hid (rsplit _ L w3 (RdT.of (O12.out.later b3)) (by omega) _ HDM.out)
    obtain ⟨a3, c3, rfl, _⟩ := own_form od
    have OD := Lib.hid od
    have ON := Lib.hid on
    have B3 := Lib.hid b3
    clear od on b3 HS
    go_wp2_with fail
    refine HT.out.mono ?_
    rintro e w4 ⟨dv4, nv4, rfl, od4, on4, b4⟩
    have HE := Lib.hid (eqTexts _ dv4 D D w4 (RdT.later (RdT.of OD.out) b4) (RdT.of od4) (by omega) true (by simp))
    have OD4 := Lib.hid (OD.out.later b4)
    have ON4 := Lib.hid (ON.out.later b4)
    have ON5 := Lib.hid on4
    have B4 := Lib.hid (up B3.out b4)
    clear od4 on4 b4 HT OD ON B3
    go_wp2_with fail
    refine HE.out.mono ?_
    rintro e w5 ⟨rfl, b5⟩
    have HF := Lib.hid (eqInts nv nv4 _ _ w5 (RdI.later (RdI.of ON4.out) b5) (RdI.later (RdI.of ON5.out) b5) (by omega) true (by simp))
    have B5 := Lib.hid (up B4.out b5)
    have OD5 := Lib.hid (OD4.out.later b5)
    clear b5 HE B4 OD4 ON4 ON5
    go_wp2_with fail
    refine HF.out.mono ?_
    rintro e w6 ⟨rfl, b6⟩
    have B6 := Lib.hid (up B5.out b6)
    have OD6 := Lib.hid (OD5.out.later b6)
    have HP := Lib.hid (putL r2 r1 N L w6 (own_rd O2.out B6.out) (RdT.later (RdT.of O12.out) B6.out) (by omega) _ rfl (by rw [List.length_append]; omega))
    clear b6 HF B5 OD5
    go_wp2_with fail
    refine HP.out.mono ?_
    rintro e w7 ⟨r7, rfl, o7, b7⟩
    have B7 := Lib.hid (up B6.out b7)
    have OD7 := Lib.hid (OD6.out.later b7)
    have O7 := Lib.hid o7
    have HQ := Lib.hid (rputL r2 r1 N L w7 (own_rd O2.out B7.out) (RdT.later (RdT.of O12.out) B7.out) (by omega) _ rfl (by rw [List.length_append]; omega))
    clear b7 o7 HP B6 OD6
    go_wp2_with fail
    refine HQ.out.mono ?_
    rintro e w8 ⟨r8, rfl, o8, b8⟩
    have B8 := Lib.hid (up B7.out b8)
    have OD8 := Lib.hid (OD7.out.later b8)
    have R7 := Lib.hid (own_rd O7.out b8)
    have R8 := Lib.hid o8.rd
    clear b8 o8 HQ B7 OD7 O7
    go_wp2_with fail
    refine (eq_yes _ _ _ _ _ R7.out R8.out rfl).mono ?_
    rintro e w' ⟨rfl, rfl⟩
    clear R7 R8
    go_wp2_with fail
    go_loopw [11] (fun i wr => ∃ (k : Nat) (D' : List ByteArray), k ≤ D.length ∧ i = .int .i64 (k : Nat) ∧ Hid (D'.length = D.length) ∧ Hid (OwnT wr w2.heap.size (.slice a3 D.length c3) D') ∧ Hid (Below w2.heap.size w2 wr)) (fun i _ => D.length - (intOf i).toNat)
    case atStart => exact ⟨0, D, by omega, rfl, Lib.hid rfl, OD8, B8⟩
    case round =>
      clear OD8 B8
      obtain ⟨k, D', hk, rfl, HL, HO, HB⟩ := hrel
      by_cases hlt : k < D.length
      · have hlt1 : (k : Int) < D.length := by omega
        obtain ⟨x, hx⟩ : ∃ x, D'[k]? = some x := ⟨_, List.getElem?_eq_getElem (by rw [HL.out]; exact hlt)⟩
        obtain ⟨g, rfl, hg⟩ := OwnT.form HO.out (by rw [HL.out]; omega)
        have q1 := OwnT.cell HO.out HL.out hx
        have q2 := OwnT.melt HO.out HL.out k
        have HO2 := Lib.hid (OwnT.stored HO.out HL.out k ⟨#[115, 112, 111, 105, 108, 116]⟩)
        have HB2 := Lib.hid (HB.out.setCell (p := ⟨g, k, none⟩) hg (.string ⟨#[115, 112, 111, 105, 108, 116]⟩))
        have HL2 : Hid ((D'.set k ⟨#[115, 112, 111, 105, 108, 116]⟩).length = D.length) := Lib.hid (by rw [List.length_set]; exact HL.out)
        clear hx HO HB
        go_wp2_with fail
        go_roundw
        case rel => exact ⟨k + 1, _, by omega, by go_num, HL2, HO2, HB2⟩
        case measure => simp [intOf]; omega
      · obtain rfl : k = D.length := by omega
        have hlt1 : ¬ (D.length : Int) < D.length := by omega
        clear HL HO
        go_wp2_with fail
        refine (HC.out _ (up B2.out HB.out)).mono ?_
        rintro e w10 ⟨v6, rfl, o6, b6⟩
        have HE := Lib.hid (eqTexts r1 v6 L L w10 (RdT.later (RdT.of (O12.out.later HB.out)) b6) (RdT.of o6) (by omega) true (by simp))
        have B10 := Lib.hid (up HB.out b6)
        clear o6 b6 HB
        go_wp2_with fail
        refine HE.out.mono ?_
        rintro e w11 ⟨rfl, b11⟩
        have B11 := Lib.hid (up B10.out b11)
        clear b11 B10 HE
        go_wp2_with fail
        refine (eq_yes _ _ _ _ _ (own_rd O2.out B11.out) (HA.out.later (Nat.le_refl _) (up B2.out B11.out)) rfl).mono ?_
        rintro e w' ⟨rfl, rfl⟩
        go_wp2_with fail
        refine (works _).mono ?_
        rintro e w9 ⟨rfl, b9⟩
        go_wp2_with fail
        go_ret
        exact ⟨rfl, up B2.out (up B11.out b9)⟩
end Go.Proofs.Ytenfjmdajlhfoaa
