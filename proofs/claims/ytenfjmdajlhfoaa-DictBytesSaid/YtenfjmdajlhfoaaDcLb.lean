/- The walks of DictJoins and DictOnly. -/
import Derived.Test.YtenfjmdajlhfoaaDcLa
import Derived.Deep.RegionHeld3
namespace Go.Proofs.Ytenfjmdajlhfoaa
open Go.RowKit
set_option linter.unusedVariables false
set_option maxRecDepth 100000

structure IntsIn (W : World) (v : Value) (l : List Int) : Prop where
  rd : RdI W W.heap.size v l
  in64 : ∀ x ∈ l, -9223372036854775808 ≤ x ∧ x ≤ 9223372036854775807
theorem joi_len {D : List ByteArray} {ns : List Int} {r : Option (List ByteArray)} (h : JnIs D ns r) : (r.getD []).length ≤ ns.length := by
  cases r with
  | none => simp
  | some T =>
    have := pk_len D ns [] (joi_pk ((h T).1 rfl).2)
    simp at this ⊢; omega
set_option maxHeartbeats 8000000 in
theorem dictJoins (v : Value) (d : List ByteArray) (u : Value) (l : List Int) (w : World) (hd : TextsIn w v d) (hn : IntsIn w u l) :
    Calls Try.prog 4 #[v, u] w fun e w' => e = .returned (.bool true) ∧ Below w.heap.size w w' := by
  obtain ⟨L, hL⟩ : ∃ L, cutL d = L := ⟨_, rfl⟩
  have HC := Lib.hid (fun w1 (hb : Below w.heap.size w w1) => lCut v d w1 (hd.later hb) L hL)
  have hLl : L.length ≤ 60 := by rw [← hL]; exact cutL_len d
  have hll := Gn.Rd.len' hn.rd
  obtain ⟨aa, ca, rfl, pa, qa, _⟩ := Gn.Rd.form hn.rd
  unfold maxLen at qa
  obtain ⟨j, hj⟩ : ∃ j, min l.length 60 = j := ⟨_, rfl⟩
  have M := min_is l.length 60 j (by omega)
  obtain ⟨na, n2⟩ : j ≤ l.length ∧ j ≤ 60 := by omega
  have k1 : (j : Int) ≤ (ca : Int) := by omega
  have HA := Lib.hid (rd_to (m := j) hn.rd na)
  have hnl : (l.take j).length ≤ 60 := by rw [List.length_take]; omega
  have hnb := fun x (hx : x ∈ l.take j) => hn.in64 x (List.mem_of_mem_take hx)
  generalize l.take j = N at *
  obtain ⟨r, hr⟩ := JnIs.all L N
  have hrl := joi_len hr
  have HRJ := Lib.hid hr
  have HNB := Lib.hid hnb
  have HI := Lib.hid (fun w1 (hb : Below w.heap.size w w1) => copyInts (.slice aa j ca) N w1 (RdI.later HA.out hb) (by omega))
  obtain ⟨da, dc, rfl, _⟩ := Gn.Rd.form hd.rd
  obtain ⟨er, her⟩ : ∃ er, (if r.isSome then (0 : Int) else 150) = er := ⟨_, rfl⟩
  have HER := Lib.hid her
  clear hd hn hL hr hnb hj her
  go_enter Try.func4, Try.ntmps4
  go_wp2_with fail
  go_region_held3 (fun _ => True) (trivial)
    ((first
      | (go_at_call 11; refine (HC.out _ (Below.refl _ _).drew).mono ?_; rintro e w1 ⟨r1, rfl, o1, b1⟩; have b1' : Below w.heap.size w w1 := (by first | exact b1 | exact undrew b1); have B1 := Lib.hid b1'; have O1 := Lib.hid o1; clear b1 b1' o1)
      | (go_at_call 21; refine (HI.out _ (by first | exact B1.out | exact B1.out.drew)).mono ?_; rintro e w2 ⟨r2, rfl, o2, b2⟩; have b2' : Below w1.heap.size w1 w2 := (by first | exact b2 | exact undrew b2); have B2 := Lib.hid (up B1.out b2'); have O2 := Lib.hid o2; have O12 := Lib.hid (OwnT.later O1.out b2'); clear b2 b2' o2 O1 B1)))
  all_goals
    have HJ := Lib.hid (join _ _ L N w2 (RdT.of O12.out) (RdI.of O2.out) HNB.out (by omega) (by omega) r HRJ.out)
    unfold JnPost at HJ
    rw [HER.out] at HJ
    go_wp2_with fail
    refine HJ.out.mono ?_
    rintro e w3 ⟨v3, rfl, o3, b3⟩
    have HK := Lib.hid (rjoin _ _ L N w3 (RdT.of (O12.out.later b3)) (RdI.of (O2.out.later b3)) (by omega) (by omega) r HRJ.out)
    unfold JnPost at HK
    rw [HER.out] at HK
    have O3 := Lib.hid o3
    have B3 := Lib.hid b3
    clear o3 b3 HJ
    go_wp2_with fail
    refine HK.out.mono ?_
    rintro e w4 ⟨v4, rfl, o4, b4⟩
    have HE := Lib.hid (eqTexts v3 v4 _ _ w4 (RdT.later (RdT.of O3.out) b4) (RdT.of o4) (by omega) true (by simp))
    have B4 := Lib.hid (up B3.out b4)
    clear o4 b4 HK O3 B3
    go_wp2_with fail
    refine HE.out.mono ?_
    rintro e w5 ⟨rfl, b5⟩
    have B5 := Lib.hid (up B4.out b5)
    clear b5 HE B4
    go_wp2_with fail
    refine (HC.out _ (up B2.out B5.out)).mono ?_
    rintro e w6 ⟨v6, rfl, o6, b6⟩
    have HE := Lib.hid (eqTexts r1 v6 L L w6 (RdT.later (RdT.of (O12.out.later B5.out)) b6) (RdT.of o6) (by omega) true (by simp))
    have B6 := Lib.hid (up B5.out b6)
    clear o6 b6 B5
    go_wp2_with fail
    refine HE.out.mono ?_
    rintro e w7 ⟨rfl, b7⟩
    have B7 := Lib.hid (up B6.out b7)
    have HE := Lib.hid (eqInts r2 _ N N w7 (RdI.later (RdI.of O2.out) B7.out) (RdI.later HA.out (up B2.out B7.out)) (by omega) true (by simp))
    clear b7 B6
    go_wp2_with fail
    refine HE.out.mono ?_
    rintro e w8 ⟨rfl, b8⟩
    go_wp2_with fail
    refine (works _).mono ?_
    rintro e w9 ⟨rfl, b9⟩
    go_wp2_with fail
    go_ret
    exact ⟨by simp, up B2.out (up (up B7.out b8) b9)⟩
set_option maxHeartbeats 8000000 in
theorem dictOnly (v : Value) (d : List ByteArray) (u : Value) (l : List Int) (w : World) (hd : TextsIn w v d) (hn : IntsIn w u l) :
    Calls Try.prog 7 #[v, u] w fun e w' => e = .returned (.bool true) ∧ Below w.heap.size w w' := by
  obtain ⟨L, hL⟩ : ∃ L, cutL d = L := ⟨_, rfl⟩
  have HC := Lib.hid (fun w1 (hb : Below w.heap.size w w1) => lCut v d w1 (hd.later hb) L hL)
  have hLl : L.length ≤ 60 := by rw [← hL]; exact cutL_len d
  have hll := Gn.Rd.len' hn.rd
  obtain ⟨aa, ca, rfl, pa, qa, _⟩ := Gn.Rd.form hn.rd
  unfold maxLen at qa
  obtain ⟨j, hj⟩ : ∃ j, min l.length 60 = j := ⟨_, rfl⟩
  have M := min_is l.length 60 j (by omega)
  obtain ⟨na, n2⟩ : j ≤ l.length ∧ j ≤ 60 := by omega
  have k1 : (j : Int) ≤ (ca : Int) := by omega
  have HA := Lib.hid (rd_to (m := j) hn.rd na)
  have hnl : (l.take j).length ≤ 60 := by rw [List.length_take]; omega
  have hnb := fun x (hx : x ∈ l.take j) => hn.in64 x (List.mem_of_mem_take hx)
  generalize l.take j = N at *
  obtain ⟨r, hr⟩ := JnIs.all L N
  have hrl := joi_len hr
  have HRJ := Lib.hid hr
  have HNB := Lib.hid hnb
  have HI := Lib.hid (fun w1 (hb : Below w.heap.size w w1) => copyInts (.slice aa j ca) N w1 (RdI.later HA.out hb) (by omega))
  obtain ⟨da, dc, rfl, _⟩ := Gn.Rd.form hd.rd
  clear hd hn hL hr hnb hj
  go_enter Try.func7, Try.ntmps7
  go_wp2_with fail
  go_region_held3 (fun _ => True) (trivial)
    ((first
      | (go_at_call 11; refine (HC.out _ (Below.refl _ _).drew).mono ?_; rintro e w1 ⟨r1, rfl, o1, b1⟩; have b1' : Below w.heap.size w w1 := (by first | exact b1 | exact undrew b1); have B1 := Lib.hid b1'; have O1 := Lib.hid o1; clear b1 b1' o1)
      | (go_at_call 21; refine (HI.out _ (by first | exact B1.out | exact B1.out.drew)).mono ?_; rintro e w2 ⟨r2, rfl, o2, b2⟩; have b2' : Below w1.heap.size w1 w2 := (by first | exact b2 | exact undrew b2); have B2 := Lib.hid (up B1.out b2'); have O2 := Lib.hid o2; have O12 := Lib.hid (OwnT.later O1.out b2'); clear b2 b2' o2 O1 B1)))
  all_goals
    have HJ := Lib.hid (join _ _ L N w2 (RdT.of O12.out) (RdI.of O2.out) HNB.out (by omega) (by omega) r HRJ.out)
    unfold JnPost at HJ
    go_wp2_with fail
    refine HJ.out.mono ?_
    rintro e w3 ⟨v3, rfl, o3, b3⟩
    obtain ⟨a3, c3, rfl, _⟩ := own_form o3
    have O3 := Lib.hid o3
    have B3 := Lib.hid b3
    clear o3 b3 HJ
    cases r with
    | none =>
      go_wp2_with fail
      refine (works _).mono ?_
      rintro e w9 ⟨rfl, b9⟩
      go_wp2_with fail
      go_ret
      exact ⟨by simp, up B2.out (up B3.out b9)⟩
    | some T =>
      obtain ⟨e1, e2⟩ := (Dc.joi_iff L N T).1 ((HRJ.out T).1 rfl)
      have e2 : ofN (Dc.spl [] [] T).2 = N := e2
      have hTl : T.length ≤ 60 := by simp at hrl; omega
      have HS := Lib.hid (split _ T w3 (RdT.of O3.out) (by omega) _ rfl)
      unfold SpPost at HS
      rw [e1, e2] at HS
      clear e1 e2
      go_wp2_with fail
      refine HS.out.mono ?_
      rintro e w4 ⟨dv, nv, rfl, od, on, b4⟩
      have B4 := Lib.hid (up B3.out b4)
      have HE := Lib.hid (eqTexts dv r1 L L w4 (RdT.of od) (RdT.later (RdT.of O12.out) B4.out) (by omega) true (by simp))
      have ON := Lib.hid on
      clear od on b4 B3 HS
      go_wp2_with fail
      refine HE.out.mono ?_
      rintro e w5 ⟨rfl, b5⟩
      have HF := Lib.hid (eqInts nv r2 N N w5 (RdI.later (RdI.of ON.out) b5) (RdI.later (RdI.of O2.out) (up B4.out b5)) (by omega) true (by simp))
      go_wp2_with fail
      refine HF.out.mono ?_
      rintro e w6 ⟨rfl, b6⟩
      go_wp2_with fail
      refine (works _).mono ?_
      rintro e w9 ⟨rfl, b9⟩
      go_wp2_with fail
      go_ret
      exact ⟨by simp, up B2.out (up (up (up B4.out b5) b6) b9)⟩
end Go.Proofs.Ytenfjmdajlhfoaa
