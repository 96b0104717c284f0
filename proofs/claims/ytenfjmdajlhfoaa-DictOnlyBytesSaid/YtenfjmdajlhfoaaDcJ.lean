/- Join. -/
import Derived.Test.YtenfjmdajlhfoaaDcL
namespace Go.Proofs.Ytenfjmdajlhfoaa
open Go.RowKit
set_option linter.unusedVariables false
set_option maxRecDepth 100000

/-- What Join answers, in memory. -/
def JnPost (w : World) (r : Option (List ByteArray)) (e : Ending) (w' : World) : Prop := ∃ v, e = .returned (.tuple #[v, .int .i64 (if r.isSome then 0 else 150)]) ∧ OwnT w' w.heap.size v (r.getD []) ∧ Below w.heap.size w w'
def JnIs (D : List ByteArray) (ns : List Int) (r : Option (List ByteArray)) : Prop := ∀ T, r = some T ↔ (Dc.Once D ∧ Dc.joi D ns = some T)
theorem JnIs.none {D : List ByteArray} {ns : List Int} {r : Option (List ByteArray)} (h : JnIs D ns r) (hn : ¬ (Dc.Once D ∧ ∃ T, Dc.joi D ns = some T)) : r = none := by
  cases r with
  | none => rfl
  | some T => exact absurd ((h T).1 rfl) (fun ⟨a, b⟩ => hn ⟨a, T, b⟩)
theorem JnPost.no {w w' : World} (h : Below w.heap.size w w') : JnPost w none (.returned (.tuple #[.slice none 0 0, .int .i64 150])) w' := ⟨_, rfl, Gn.Own.nil _ _, h⟩
theorem take_once {D : List ByteArray} {k : Nat} {x : ByteArray} (hx : D[k]? = some x) (h : Dc.Once (D.take k)) (hn : ¬ Dc.idx (D.take k) x < (D.take k).length) : Dc.put (D.take k) x = D.take (k + 1) ∧ Dc.Once (D.take (k + 1)) := by
  have e : D.take (k + 1) = D.take k ++ [x] := by rw [List.take_add_one, hx]; rfl
  have e2 := Dc.put_new (D.take k) x hn
  exact ⟨by rw [e2, e], by rw [e, ← e2]; exact h.put x⟩
theorem once_not {D : List ByteArray} {k : Nat} {x : ByteArray} (hx : D[k]? = some x) (hn : Dc.idx (D.take k) x < (D.take k).length) : ¬ Dc.Once D := by
  intro h
  have h1 := h k x hx
  have h2 := Dc.idx_app (D.take k) (D.drop k) x hn
  rw [List.take_append_drop] at h2
  rw [List.length_take] at hn
  omega
theorem wrap_neg (x : Int) (h0 : -9223372036854775808 ≤ x) (h1 : x < 0) : IntKind.u64.wrap x = ((x + 18446744073709551616).toNat : Nat) := by
  rw [IntKind.wrap_u64]
  omega
theorem wrap_pos (n : Nat) (h1 : n < 18446744073709551616) : IntKind.u64.wrap (n : Int) = (n : Nat) := by
  rw [IntKind.wrap_u64]
  omega
/-- A number of the list, as add takes it. -/
theorem wrap_any (x : Int) (h0 : -9223372036854775808 ≤ x) (h1 : x ≤ 9223372036854775807) : ∃ n : Nat, IntKind.u64.wrap x = (n : Nat) ∧ (0 ≤ x → x = (n : Nat)) ∧ (x < 0 → 9223372036854775808 ≤ n) := by
  by_cases h : x < 0
  · exact ⟨_, wrap_neg x h0 h, fun h2 => by omega, fun _ => by omega⟩
  · obtain ⟨m, rfl⟩ := Int.eq_ofNat_of_zero_le (a := x) (by omega)
    exact ⟨m, wrap_pos m (by omega), fun _ => rfl, fun h2 => absurd h2 h⟩
set_option maxHeartbeats 8000000 in
theorem join (v u : Value) (D : List ByteArray) (ns : List Int) (w : World) (hd : RdT w w.heap.size v D) (hn : RdI w w.heap.size u ns) (hb : ∀ x ∈ ns, -9223372036854775808 ≤ x ∧ x ≤ 9223372036854775807)
    (hD : D.length ≤ 1000000) (hnl : ns.length ≤ 1000000) (r : Option (List ByteArray)) (hr : JnIs D ns r) :
    Calls Try.prog 22 #[v, u] w (JnPost w r) := by
  have HR := Lib.hid hd
  have HI := Lib.hid hn
  have HN := Lib.hid (newDic w)
  have HJ := Lib.hid hr
  have HBD := Lib.hid hb
  obtain ⟨a, c, rfl, _⟩ := Gn.Rd.form hd
  obtain ⟨a2, c2, rfl, _⟩ := Gn.Rd.form hn
  clear hd hn hr hb
  go_enter Try.func22, Try.ntmps22
  go_wp2_with fail
  refine HN.out.mono ?_
  rintro e w1 ⟨p, m, rfl, hd, hb⟩
  have HB0 := Lib.hid hb
  have HD0 := Lib.hid hd
  clear HN hd hb
  go_wp2_with fail
  go_loopw [17] (fun i wr => ∃ (k : Nat) (dv : Value), k ≤ D.length ∧ i = .int .i64 (k : Nat) ∧ Hid (Dc.Once (D.take k)) ∧ Hid (DV wr w.heap.size p m dv (D.take k)) ∧ Hid (Below w.heap.size w wr)) (fun i _ => D.length - (intOf i).toNat)
  case atStart => exact ⟨0, _, by omega, rfl, Lib.hid (by rw [List.take_zero]; exact Dc.Once.nil), Lib.hid (by rw [List.take_zero]; exact HD0.out), HB0⟩
  case round =>
    clear HD0 HB0
    obtain ⟨k, dv, hk, rfl, HO, HD, HW⟩ := hrel
    by_cases hlt : k < D.length
    · have hlt1 : (k : Int) < D.length := by omega
      obtain ⟨x, hx⟩ : ∃ x, D[k]? = some x := ⟨_, List.getElem?_eq_getElem hlt⟩
      obtain ⟨b, off, rfl, p0⟩ := rdT_cell HR.out HW.out hx
      have HP := Lib.hid (place _ w.heap.size p m dv _ x HD.out (by rw [List.length_take]; omega))
      by_cases hq : Dc.idx (D.take k) x < (D.take k).length
      · have hnone : r = none := HJ.out.none (fun h => once_not hx hq h.1)
        subst hnone
        have hdec : decide (¬ Dc.idx (D.take k) x < (D.take k).length) = false := by simpa using hq
        unfold PlPost at HP
        rw [hdec] at HP
        clear hdec hx HJ hq
        go_wp2_with fail
        refine HP.out.mono ?_
        rintro e w3 ⟨rfl, dv2, hd2, ht⟩
        have HW3 := Lib.hid (HW.out.trans (ht.below HW.out.size HD.out.low))
        clear HP hd2 ht HW HD
        go_wp2_with fail
        try rw [Exit.noGoto_ret]
        go_ret2
        exact JnPost.no HW3.out
      · have hdec : decide (¬ Dc.idx (D.take k) x < (D.take k).length) = true := by simpa using hq
        obtain ⟨e1, e2⟩ := take_once hx HO.out hq
        have HO2 := Lib.hid e2
        unfold PlPost at HP
        rw [hdec, e1] at HP
        clear hdec hx hq e1 e2
        go_wp2_with fail
        refine HP.out.mono ?_
        rintro e w3 ⟨rfl, dv2, hd2, ht⟩
        have HW3 := Lib.hid (HW.out.trans (ht.below HW.out.size HD.out.low))
        have HD3 := Lib.hid hd2
        clear HP hd2 ht HW HD
        go_wp2_with fail
        go_roundw
        case rel => exact ⟨k + 1, _, by omega, by go_num, HO2, HD3, HW3⟩
        case measure => simp [intOf]; omega
    · obtain rfl : k = D.length := by omega
      have hlt1 : ¬ (D.length : Int) < D.length := by omega
      have HON : Hid (Dc.Once D) := Lib.hid (by have := HO.out; rwa [List.take_length] at this)
      have HDV := HD.out
      rw [List.take_length] at HDV
      have hc0 := HDV.blk.cell 0
      have HT := Lib.hid HDV.own
      obtain ⟨a3, c3, rfl, _⟩ := own_form HDV.own
      have HRI := Lib.hid (Gn.Rd.below HI.out HW.out (Nat.le_refl _))
      clear HO HD HDV HR
      have HW2 := Lib.hid (HW.out.alloc HW.out.size (.cells #[.slice a3 D.length c3, .int .i64 0, .slice none 0 0] 59))
      have HL0 : Hid (LV (wr.alloc (.cells #[.slice a3 D.length c3, .int .i64 0, .slice none 0 0] 59)) wr.heap.size wr.heap.size (.slice a3 D.length c3) D 0 (.slice none 0 0) []) :=
        Lib.hid ⟨Blk.new wr 59 #[.slice a3 D.length c3, .int .i64 0, .slice none 0 0], Gn.Rd.below (RdT.of HT.out) (up_new _ _) (Nat.le_refl _), Gn.Own.nil _ _, Nat.le_refl _⟩
      have hBw := HW.out.size
      go_wp2_with fail
      obtain ⟨q, hq⟩ : ∃ q, wr.heap.size = q := ⟨_, rfl⟩
      have hq2 : q ≤ (wr.alloc (.cells #[.slice a3 D.length c3, .int .i64 0, .slice none 0 0] 59)).heap.size := by rw [World.size_alloc]; omega
      rw [hq] at HL0 hBw ⊢
      generalize wr.alloc (.cells #[.slice a3 D.length c3, .int .i64 0, .slice none 0 0] 59) = w2 at *
      obtain ⟨R0, hR0⟩ : ∃ R0, Dc.jn D 0 [] ns = R0 := ⟨_, rfl⟩
      have HR0 := Lib.hid hR0
      have HS0 : Hid (Dc.jn D 0 [] (ns.drop 0) = R0) := Lib.hid hR0
      have hml := Gn.Rd.len' (RdT.of HT.out)
      clear hR0 hq HT hc0 HW HRI
      go_loopw [37] (fun i wx => ∃ (k u : Nat) (tv : Value) (T : List ByteArray), k ≤ ns.length ∧ i = .int .i64 (k : Nat) ∧ Hid (u ≤ k ∧ T.length = k) ∧ Hid (Dc.jn D u T (ns.drop k) = R0) ∧ Hid (LV wx q q (.slice a3 D.length c3) D u tv T) ∧ Hid (Below w.heap.size w wx) ∧ q ≤ wx.heap.size) (fun i _ => ns.length - (intOf i).toNat)
      case atStart => exact ⟨0, 0, _, [], by omega, rfl, Lib.hid ⟨by omega, rfl⟩, HS0, HL0, HW2, hq2⟩
      case round =>
        clear HS0 HL0 HW2 hq2
        obtain ⟨k, u, tv, T, hk, rfl, HL, HS, HV, HW, hqx⟩ := hrel
        by_cases hlt : k < ns.length
        · have hlt1 : (k : Int) < ns.length := by omega
          obtain ⟨x, hx⟩ : ∃ x, ns[k]? = some x := ⟨_, List.getElem?_eq_getElem hlt⟩
          obtain ⟨b, off, rfl, p0⟩ := rdI_cell HI.out HW.out hx
          have hxb := HBD.out x (List.mem_of_getElem? hx)
          obtain ⟨n, hn1, hn2, hn3⟩ := wrap_any x hxb.1 hxb.2
          have hS := HS.out
          rw [drop_at hx] at hS
          by_cases hok : 0 ≤ x ∧ x < (D.length : Int) ∧ x ≤ (u : Int)
          · have hxn := hn2 hok.1
            have hDn : n < D.length := by omega
            obtain ⟨y, hy⟩ : ∃ y, D[n]? = some y := ⟨_, List.getElem?_eq_getElem hDn⟩
            rw [Dc.jn_yes D u T x _ n y hxn hy (by omega)] at hS
            have HS2 := Lib.hid hS
            have HA := Lib.hid (add_yes _ q q u _ tv D T n y HV.out hqx hy (by omega) (by have := HL.out; omega) (by have := HL.out; omega))
            have HL2 : Hid (max u (n + 1) ≤ k + 1 ∧ (T ++ [y]).length = k + 1) := Lib.hid ⟨by have := HL.out; omega, by simp [HL.out.2]⟩
            clear hS HS HL hx hxb hn2 hn3 hok hxn hDn hy
            go_wp2_with fail
            refine HA.out.mono ?_
            rintro e w3 ⟨rfl, tv2, hv2, ht⟩
            have HW3 := Lib.hid (HW.out.trans (ht.below HW.out.size (fun i hi => Nat.le_trans hBw (HV.out.low i hi))))
            have hq3 := Nat.le_trans hqx ht.size
            have HV3 := Lib.hid hv2
            clear HA hv2 ht HW HV
            go_wp2_with fail
            go_roundw
            case rel => exact ⟨k + 1, _, _, _, by omega, by go_num, HL2, HS2, HV3, HW3, hq3⟩
            case measure => simp [intOf]; omega
          · rw [Dc.jn_no _ _ _ _ _ hok] at hS
            subst hS
            have hnone : r = none := HJ.out.none (fun h => by
              obtain ⟨T2, h2⟩ := h.2
              unfold Dc.joi at h2
              rw [HR0.out] at h2
              cases h2)
            subst hnone
            have hn : ¬ (n < D.length ∧ n ≤ u) := by
              intro h
              by_cases hx0 : x < 0
              · have := hn3 hx0; omega
              · have := hn2 (by omega); omega
            have HA := Lib.hid (add_no _ q q u _ tv D T n HV.out hn (by have := HL.out; omega))
            clear HS HL hx hxb hn2 hn3 hok hn HJ HR0
            go_wp2_with fail
            refine HA.out.mono ?_
            rintro e w3 ⟨rfl, rfl⟩
            go_wp2_with fail
            try rw [Exit.noGoto_ret]
            go_ret2
            exact JnPost.no HW.out
        · obtain rfl : k = ns.length := by omega
          have hlt1 : ¬ (ns.length : Int) < ns.length := by omega
          have hS := HS.out
          rw [List.drop_length] at hS
          have hjoi : Dc.joi D ns = if u < D.length then none else some T := by
            unfold Dc.joi
            rw [HR0.out, ← hS]
            rfl
          by_cases hu : u < D.length
          · rw [if_pos hu] at hjoi
            have hnone : r = none := HJ.out.none (fun h => by obtain ⟨T2, h2⟩ := h.2; rw [hjoi] at h2; cases h2)
            subst hnone
            have HA := Lib.hid (whole_no _ q q u _ tv D T HV.out hu)
            clear HS hS hjoi HJ HR0
            go_wp2_with fail
            refine HA.out.mono ?_
            rintro e w3 ⟨rfl, hb3⟩
            have HW3 := Lib.hid (HW.out.trans (hb3.mono HW.out.size))
            clear hb3
            go_wp2_with fail
            go_ret2
            exact JnPost.no HW3.out
          · rw [if_neg hu] at hjoi
            have hsome : r = some T := (HJ.out T).2 ⟨HON.out, hjoi⟩
            subst hsome
            have HA := Lib.hid (whole_yes _ q q u _ tv D T HV.out hu)
            clear HS hS hjoi HJ HR0
            go_wp2_with fail
            refine HA.out.mono ?_
            rintro e w3 ⟨rfl, hb3⟩
            have HW3 := Lib.hid (HW.out.trans (hb3.mono HW.out.size))
            have HT3 := Lib.hid (Gn.Own.lower (HV.out.own.later hb3) hBw)
            clear hb3
            go_wp2_with fail
            go_ret2
            exact ⟨_, rfl, HT3.out, HW3.out⟩
end Go.Proofs.Ytenfjmdajlhfoaa
