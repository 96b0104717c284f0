/- The reference's Unquote. -/
import Derived.Test.YtpmfalcmlkcafaaDoorRbeg
import Derived.Lib.AppendStr
namespace Go.Proofs.YtpmfalcmlkcafaaDoor
open Go.RowKit
set_option linter.unusedVariables false

set_option maxRecDepth 100000 in
/-- append of a string's bytes onto what is owned. -/
theorem wpList_app_str {w : World} {ops : Array Oper} {rest : List Oper} {o : Oper} {a : Act} {Q : Exit → Act → World → Prop} (hgd : o.guard = none) (sl x : Operand)
    (ho : o.op = .call { callee := .builtin .append, args := #[sl, x], argTypes := #[30, 9] })
    (base : Nat) (v : Value) (l : List Nat) (hs : a.eval sl = v) (hown : Own w base v l) (s : ByteArray) (hx : a.eval x = .string s)
    (hlen : l.length + s.size ≤ 1000000000) (hbase : base ≤ w.heap.size)
    (h : ∀ v' w', Own w' base v' (l ++ bl s) → Below base w w' → wpList Tryd.prog ops Q rest (a.put o.dst v') w') : wpList Tryd.prog ops Q (o :: rest) a w := by
  obtain ⟨i, hi, hz, hsz, hby⟩ := byte_parts
  refine Lib.wpList_append_own_string w hgd sl x 30 9 ho base 5 i Tryd.underlying30 Tryd.underlying9 hi hz hsz hby v l.length (vals l) hs hown.1 s hx (by simp only [maxLen]; omega) (by omega) hbase ?_
  intro v' w' h2 h3 _
  refine h v' w' ⟨?_, fun x hx => (List.mem_append.1 hx).elim (hown.2 x) (bl_byte s x)⟩ ((Below.refl _ _).grown h3 hbase (fun k hk => (hown.1.lt k hk).1))
  rw [List.length_append, vals_append, bl_length, ← strCells_bl]
  exact h2
theorem take_enc (l : List Nat) (hl : ∀ x ∈ l, x < 256) (h : Utf.nw l ≠ 0) : l.take (Utf.nw l) = Utf.enc (Utf.nr l) := by
  obtain ⟨_, i2, i3, _⟩ := Utf.nx_some l hl h
  refine (congrArg (List.take (Utf.nw l)) i2).trans ?_
  rw [List.take_append_of_le_length (by omega), List.take_of_length_le (by omega)]
theorem part_nw (l : List Nat) (h : l.getD 0 0 ≠ 92) (hw : Utf.nw l ≠ 0) (hr : ¬ Utf.nr l < 32) : Utf.part l = (Utf.nr l, Utf.nw l, 0) := by
  unfold Utf.part; rw [if_neg h, if_pos hw, if_neg hr]
theorem part_low (l : List Nat) (hne : l ≠ []) (h : l.getD 0 0 < 32) : Utf.part l = (0, 0, 41) := by
  obtain ⟨k1, k2⟩ := low_one l hne (by omega)
  unfold Utf.part; rw [if_neg (by omega), if_pos (by omega), if_pos (by omega)]
theorem part_bad (l : List Nat) (h : l.getD 0 0 ≠ 92) (hw : Utf.nw l = 0) (f : Bool) (hf : Utf.full l = f) : Utf.part l = (0, 0, if f then 40 else 3) := by
  unfold Utf.part; rw [if_neg h, if_neg (by omega), hf]; cases f <;> rfl
set_option maxHeartbeats 8000000 in
set_option maxRecDepth 100000 in
theorem runquote (s : ByteArray) (w : World) (hm : s.size ≤ 1000000) (t : List Nat) (n e : Nat) (hR : Utf.unq (bl s) = (t, n, e)) :
    Calls Tryd.prog 8 #[.string s] w fun x w' => x = quad t n e ∧ Below w.heap.size w w' := by
  have hmm : s.size ≤ maxLen := by unfold maxLen; omega
  by_cases h0 : s.size = 0
  · have hz : bl s = [] := bl_nil.2 h0
    rw [hz, show Utf.unq [] = ([], 0, 3) from rfl] at hR
    have hq : (s.toList == (⟨#[]⟩ : ByteArray).toList) = true := by rw [bl_eq, hz]; rfl
    have hq2 : s.toList.isEmpty = true := by rw [bl_empty, hz]; rfl
    have hq3 : s.toList = [] := by simpa using hq2
    have HR := Lib.hid hR
    clear hR hz h0
    go_enter Tryd.func8, Tryd.ntmps8
    go_wp2
    go_ret3
    have := HR.out
    simp only [Prod.mk.injEq] at this
    obtain ⟨rfl, rfl, rfl⟩ := this
    exact ⟨rfl, Below.refl _ _⟩
  · have hne : bl s ≠ [] := fun e => h0 (bl_nil.1 e)
    have hq : (s.toList == (⟨#[]⟩ : ByteArray).toList) = false := by rw [bl_eq]; exact decide_eq_false hne
    have hq2 : s.toList.isEmpty = false := by rw [bl_empty]; exact decide_eq_false hne
    have hq3 : ¬ s.toList = [] := by simpa using hq2
    have hd0 : decide (0 < s.size) = true := by simp; omega
    have hx0 := bl_at s 0 (by omega)
    by_cases h34 : (bl s).getD 0 0 = 34
    · have HU := Lib.hid ((unq_fin _ hne h34).symm.trans hR)
      rw [h34] at hx0
      clear hR hne h34
      go_enter Tryd.func8, Tryd.ntmps8
      go_wp2
      clear hx0
      go_loopw [5, 6] (fun v i wr => ∃ (k : Nat) (o : List Nat), 1 ≤ k ∧ k ≤ s.size ∧ i = .int .i64 k ∧ Hid (Own wr w.heap.size v o) ∧ Hid (Below w.heap.size w wr) ∧ o.length ≤ 4 * k ∧ Hid (fin o k (Utf.ub ((bl s).drop k)) = (t, n, e))) (fun _ i _ => s.size - (intOf i).toNat)
      case atStart => exact ⟨1, [], by omega, by omega, rfl, Lib.hid (Own.nil _ _), Lib.hid (Below.refl _ _), by simp, HU⟩
      case round =>
        clear HU
        obtain ⟨k, o, hk1, hks, rfl, HO, HB, hol, HF⟩ := hrel
        by_cases hlt2 : k < s.size
        · have hx := bl_at s k hlt2
          have hdb := Utf.drop_byte (bl_byte s) k
          have hdn : (bl s).drop k ≠ [] := fun e => by have := congrArg List.length e; simp [bl_length] at this; omega
          have hd0 : ((bl s).drop k).getD 0 0 = (bl s).getD k 0 := by simp [List.getD_eq_getElem?_getD, List.getElem?_drop]
          have hcb := Utf.getD_byte (bl_byte s) k
          have HFE := bl_from s k
          by_cases h34 : (bl s).getD k 0 = 34
          · rw [h34] at hx
            have HE := Lib.hid ((fin_end _ hdb hdn (by rw [hd0]; exact h34) o k).symm.trans HF.out)
            have cv := run_str wr _ _ o HO.out.rd
            clear hdb hdn hd0 h34 HF HFE
            go_wp2
            go_ret3
            have := HE.out
            simp only [Prod.mk.injEq] at this
            obtain ⟨e1, e2, e3⟩ := this
            refine ⟨?_, HB.out⟩
            unfold quad
            rw [← e1, ← e2, ← e3]
            rfl
          · have hne34 : ((bl s).drop k).getD 0 0 ≠ 34 := by rw [hd0]; exact h34
            have d34 : (((bl s).getD k 0 : Nat) == 34) = false := by rw [beq_eq_false_iff_ne]; exact h34
            have d341 : ((((bl s).getD k 0 : Nat) : Int) == 34) = false := by rw [beq_eq_false_iff_ne]; omega
            by_cases h32 : (bl s).getD k 0 < 32
            · have HE := Lib.hid ((fin_err _ hdb hdn hne34 o k 0 0 41 (part_low _ hdn (by rw [hd0]; exact h32)) (by omega)).symm.trans HF.out)
              have h32' : (((bl s).getD k 0 : Nat) : Int) < 32 := by omega
              generalize (bl s).getD k 0 = c at *
              clear hdb hdn hd0 HF HFE hne34
              go_wp2
              go_ret3
              have := HE.out
              simp only [Prod.mk.injEq] at this
              obtain ⟨rfl, rfl, rfl⟩ := this
              exact ⟨rfl, HB.out⟩
            · have h32' : ¬ (((bl s).getD k 0 : Nat) : Int) < 32 := by omega
              have hus : (s.extract k s.size).size ≤ 1000000 := by rw [ByteArray.size_extract]; omega
              have hu0 : 0 < (s.extract k s.size).size := by rw [ByteArray.size_extract]; omega
              have hkl : (k : Int) ≤ s.size := by omega
              by_cases h92 : (bl s).getD k 0 = 92
              · obtain ⟨⟨r, nn, ee⟩, hp⟩ : ∃ p, Utf.esc ((bl s).drop k) = p := ⟨_, rfl⟩
                have hpt : Utf.part ((bl s).drop k) = (r, nn, ee) := by unfold Utf.part; rw [if_pos (by rw [hd0]; exact h92), hp]
                have CE := rescape (s.extract k s.size) wr (by unfold maxLen; omega) r nn ee (by rw [HFE]; exact hp)
                have hpg := Utf.part_good _ hdb hne34
                rw [hpt] at hpg
                rw [h92] at hx d341 h32'
                by_cases hee : ee ≠ 0
                · have HE := Lib.hid ((fin_err _ hdb hdn hne34 o k r nn ee hpt hee).symm.trans HF.out)
                  have d1 : ((ee : Int) != 0) = true := by simp; omega
                  clear hdb hdn hd0 HF HFE hne34 h92 d34 h34 hpg hpt hp
                  unfold rtrip at CE
                  rw [if_neg hee] at CE
                  go_wp2_with fail
                  ((with_reducible refine CE.mono ?_); rintro x w2 ⟨rfl, hb2⟩)
                  have HB2 := Lib.hid (up HB.out hb2)
                  clear hb2 HB hee
                  go_wp2
                  go_ret3
                  have := HE.out
                  simp only [Prod.mk.injEq] at this
                  obtain ⟨rfl, rfl, rfl⟩ := this
                  exact ⟨rfl, HB2.out⟩
                · obtain rfl : ee = 0 := by omega
                  obtain ⟨g1, g2, g3, g4⟩ := hpg rfl
                  rw [List.length_drop, bl_length] at g3
                  simp only at g1 g2 g3
                  have HF2 := Lib.hid ((fin_part _ hdb hdn hne34 o k r nn hpt).symm.trans HF.out)
                  rw [List.drop_drop] at HF2
                  have hel := Utf.enc_len r
                  have HEB := Lib.hid (bl_str (Utf.enc r) (Utf.enc_byte r g1))
                  have hsz := str_size (Utf.enc r)
                  rw [rtrip_ok] at CE
                  clear hdb hdn hd0 HF HFE hne34 h92 d34 h34 hpt hp hee g4
                  generalize str (Utf.enc r) = u at *
                  go_wp2_with fail
                  ((with_reducible refine CE.mono ?_); rintro x w2 ⟨rfl, hb2⟩)
                  have HB2 := Lib.hid (up HB.out hb2)
                  have HO2 := Lib.hid (HO.out.later hb2)
                  clear hb2 HB HO
                  go_wp2_with (at_builtin
                               refine wpList_app_str rfl (.tmp 49) (.tmp 50) rfl w.heap.size _ o rfl HO2.out u rfl (by omega) HB2.out.size ?_
                               intro v3 w3 ho3 hb3)
                  go_roundw
                  case rel => exact ⟨k + nn, o ++ Utf.enc r, by omega, by omega, by go_num, Lib.hid (by rw [← HEB.out]; exact ho3), Lib.hid (HB2.out.trans hb3), by rw [List.length_append]; omega, HF2⟩
                  case measure => simp [intOf]; omega
              · have h92' : ((bl s).drop k).getD 0 0 ≠ 92 := by rw [hd0]; exact h92
                have d92 : ((((bl s).getD k 0 : Nat) : Int) == 92) = false := by rw [beq_eq_false_iff_ne]; omega
                by_cases hw : Utf.nw ((bl s).drop k) = 0
                · have CN := rnext_no (s.extract k s.size) wr (by unfold maxLen; omega) (by rw [HFE]; exact hw)
                  by_cases hf : Utf.full ((bl s).drop k) = true
                  · have HE := Lib.hid ((fin_err _ hdb hdn hne34 o k 0 0 40 (part_bad _ h92' hw true hf) (by omega)).symm.trans HF.out)
                    have CB := fun w => rbegins (s.extract k s.size) w hu0 hus false (by rw [HFE, hf]; rfl)
                    clear hdb hdn hd0 HF HFE hne34 h92 h92' hw hf
                    generalize (bl s).getD k 0 = c at *
                    go_wp2_with fail
                    ((with_reducible refine CN.mono ?_); rintro x w2 ⟨rfl, hb2⟩)
                    have HB2 := Lib.hid (up HB.out hb2)
                    clear hb2 HB
                    go_wp2_with fail
                    ((with_reducible refine (CB _).mono ?_); rintro x w3 ⟨rfl, hb3⟩)
                    have HB3 := Lib.hid (up HB2.out hb3)
                    clear hb3 HB2
                    go_wp2
                    go_ret3
                    have := HE.out
                    simp only [Prod.mk.injEq] at this
                    obtain ⟨rfl, rfl, rfl⟩ := this
                    exact ⟨rfl, HB3.out⟩
                  · have hf' : Utf.full ((bl s).drop k) = false := by simpa using hf
                    have HE := Lib.hid ((fin_err _ hdb hdn hne34 o k 0 0 3 (part_bad _ h92' hw false hf') (by omega)).symm.trans HF.out)
                    have CB := fun w => rbegins (s.extract k s.size) w hu0 hus true (by rw [HFE, hf']; rfl)
                    clear hdb hdn hd0 HF HFE hne34 h92 h92' hw hf hf'
                    generalize (bl s).getD k 0 = c at *
                    go_wp2_with fail
                    ((with_reducible refine CN.mono ?_); rintro x w2 ⟨rfl, hb2⟩)
                    have HB2 := Lib.hid (up HB.out hb2)
                    clear hb2 HB
                    go_wp2_with fail
                    ((with_reducible refine (CB _).mono ?_); rintro x w3 ⟨rfl, hb3⟩)
                    have HB3 := Lib.hid (up HB2.out hb3)
                    clear hb3 HB2
                    go_wp2
                    go_ret3
                    have := HE.out
                    simp only [Prod.mk.injEq] at this
                    obtain ⟨rfl, rfl, rfl⟩ := this
                    exact ⟨rfl, HB3.out⟩
                · have CN := rnext_yes (s.extract k s.size) wr (by unfold maxLen; omega) (by rw [HFE]; exact hw)
                  rw [HFE] at CN
                  have hr32 : ¬ Utf.nr ((bl s).drop k) < 32 := fun hlt => by
                    have := low_two _ hdb hw (by omega)
                    rw [hd0] at this
                    omega
                  obtain ⟨g1, _, g3, g4⟩ := Utf.nx_some _ hdb hw
                  have hte := take_enc _ hdb hw
                  rw [List.length_drop, bl_length] at g4
                  have HF2 := Lib.hid ((fin_part _ hdb hdn hne34 o k _ _ (part_nw _ h92' hw hr32)).symm.trans HF.out)
                  rw [List.drop_drop] at HF2
                  have hel := Utf.enc_len (Utf.nr ((bl s).drop k))
                  have HEB : Hid (bl (s.extract k (k + Utf.nw ((bl s).drop k))) = Utf.enc (Utf.nr ((bl s).drop k))) := Lib.hid (by rw [bl_extract, Nat.add_sub_cancel_left]; exact hte)
                  have hnw0 : 0 < Utf.nw ((bl s).drop k) := by omega
                  clear hdb hdn hd0 HF HFE hne34 h92 h92' hw hr32 hte g1
                  generalize (bl s).getD k 0 = c at *
                  generalize Utf.nr ((bl s).drop k) = r at *
                  generalize Utf.nw ((bl s).drop k) = nn at *
                  have hkn : (k : Int) + nn ≤ s.size := by omega
                  have hkn0 : (0 : Int) ≤ (k : Int) + nn := by omega
                  have hkk : (k : Int) ≤ (k : Int) + nn := by omega
                  have hz : (s.extract k (k + nn)).size = nn := by rw [ByteArray.size_extract]; omega
                  have hsl : ∀ w, (Instr.slice 9 (.string s) (some (.int .i64 (k : Int))) (some (.int .i64 ((k : Int) + nn))) none).run Tryd.prog w = .ok (.string (s.extract k (k + nn))) w := fun w => by
                    rw [run_slice_string_if w 9 s .i64 .i64 _ _ Tryd.underlying9, if_pos (by omega), if_pos (by omega)]
                    congr 3
                  generalize s.extract k (k + nn) = u at *
                  go_wp2_with fail
                  ((with_reducible refine CN.mono ?_); rintro x w2 ⟨rfl, hb2⟩)
                  have HB2 := Lib.hid (up HB.out hb2)
                  have HO2 := Lib.hid (HO.out.later hb2)
                  clear hb2 HB HO
                  go_wp2_with (at_builtin
                               refine wpList_app_str rfl (.tmp 73) (.tmp 79) rfl w.heap.size _ o rfl HO2.out u rfl (by omega) HB2.out.size ?_
                               intro v3 w3 ho3 hb3)
                  go_roundw
                  case rel => exact ⟨k + nn, o ++ Utf.enc r, by omega, by omega, by go_num, Lib.hid (by rw [← HEB.out]; exact ho3), Lib.hid (HB2.out.trans hb3), by rw [List.length_append]; omega, HF2⟩
                  case measure => simp [intOf]; omega
        · have hi : k = s.size := by omega
          have hnil : (bl s).drop k = [] := List.drop_of_length_le (by rw [bl_length]; omega)
          have hE := HF.out
          rw [hnil, Utf.ub_nil, show fin o k ([], 0, 3) = ([], 0, 3) from rfl] at hE
          have HE := Lib.hid hE
          have hlt3 : ¬ ((k : Int) < s.size) := by omega
          clear hE hnil HF hi
          go_wp2
          go_ret3
          have := HE.out
          simp only [Prod.mk.injEq] at this
          obtain ⟨rfl, rfl, rfl⟩ := this
          exact ⟨rfl, HB.out⟩
    · have hE := hR
      unfold Utf.unq at hE
      rw [if_neg hne, if_pos h34] at hE
      have HE := Lib.hid hE
      have hxb := Utf.getD_byte (bl_byte s) 0
      generalize (bl s).getD 0 0 = c at *
      have d34 : ((c : Int) == 34) = false := by rw [beq_eq_false_iff_ne]; omega
      have d34' : ((c : Int) != 34) = true := by simp; omega
      clear hE hR hne h34
      go_enter Tryd.func8, Tryd.ntmps8
      go_wp2
      go_ret3
      have := HE.out
      simp only [Prod.mk.injEq] at this
      obtain ⟨rfl, rfl, rfl⟩ := this
      exact ⟨rfl, Below.refl _ _⟩
end Go.Proofs.YtpmfalcmlkcafaaDoor
