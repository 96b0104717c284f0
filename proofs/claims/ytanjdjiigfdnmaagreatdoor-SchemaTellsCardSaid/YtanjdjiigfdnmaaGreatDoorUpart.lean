/- Parts of literals, and Unquote, of the program. -/
import Derived.Test.YtanjdjiigfdnmaaGreatDoorEsc
import Derived.Test.YtanjdjiigfdnmaaGreatDoorFull
import Derived.Test.YtanjdjiigfdnmaaGreatDoorQuote
namespace Go.Proofs.YtanjdjiigfdnmaaGreatDoor
open Go.RowKit
set_option linter.unusedVariables false

theorem low_one (l : List Nat) (h : l ≠ []) (h0 : l.getD 0 0 < 128) : Utf.nw l = 1 ∧ Utf.nr l = l.getD 0 0 := by
  have hd := dec_low l h0
  have h1 : ¬ (l = [] ∨ ((Utf.dec l).1 = 65533 ∧ (Utf.dec l).2 ≤ 1)) := by
    rw [hd]; rintro (e | ⟨e, _⟩)
    · exact h e
    · dsimp only at e; omega
  have h2 : Utf.nw l = 1 := by unfold Utf.nw; rw [if_neg h1, hd]
  refine ⟨h2, ?_⟩
  unfold Utf.nr
  rw [if_neg (by omega), hd]
theorem low_two (l : List Nat) (hl : ∀ x ∈ l, x < 256) (h : Utf.nw l ≠ 0) (h1 : Utf.nr l < 128) : l.getD 0 0 = Utf.nr l := by
  obtain ⟨_, i2, _⟩ := Utf.nx_some l hl h
  rw [Utf.enc_low _ h1] at i2
  conv => lhs; rw [i2]
  rfl
set_option maxHeartbeats 2000000 in
set_option maxRecDepth 100000 in
theorem takePart (s : ByteArray) (m : Nat) (w : World) (T : Tab w) (hM : IsMap w m escL) (hm : s.size ≤ maxLen) (h0 : 0 < s.size) (r n e : Nat) (hR : Utf.part (bl s) = (r, n, e)) :
    Calls Tryz.prog 173 #[.string s, .map (some m)] w fun x w' => x = trip r n e ∧ Below w.heap.size w w' := by
  have hne : bl s ≠ [] := fun e => by have := bl_nil.1 e; omega
  have HT := Lib.hid T
  have HM := Lib.hid hM
  unfold Utf.part at hR
  by_cases h92 : (bl s).getD 0 0 = 92
  · rw [if_pos h92] at hR
    obtain ⟨k1, k2⟩ := low_one _ hne (by omega)
    have C := next_yes s w T (by omega)
    rw [k1, k2, h92] at C
    have HR := Lib.hid hR
    have H92 := Lib.hid h92
    clear hR h92 k1 k2 hne T hM
    go_enter Tryz.func173, Tryz.ntmps173
    go_wp2_with fail
    ((with_reducible refine C.mono ?_); rintro x w1 ⟨rfl, hb⟩)
    have C2 := takeEscape s m w1 (HM.out.later hb) hm h0 H92.out r n e HR.out
    unfold trip at C2
    go_wp2_with fail
    ((with_reducible refine C2.mono ?_); rintro x w' ⟨rfl, rfl⟩)
    go_wp2
    go_ret3
    exact ⟨rfl, hb⟩
  · rw [if_neg h92] at hR
    by_cases hw : Utf.nw (bl s) ≠ 0
    · rw [if_pos hw] at hR
      have C := next_yes s w T hw
      have hr92 : Utf.nr (bl s) ≠ 92 := fun e => h92 (by rw [low_two _ (bl_byte s) hw (by omega)]; exact e)
      generalize Utf.nr (bl s) = q at *
      generalize Utf.nw (bl s) = nn at *
      have d92 : ((q : Int) == 92) = false := by rw [beq_eq_false_iff_ne]; omega
      by_cases h32 : q < 32
      · rw [if_pos h32] at hR
        have HR := Lib.hid hR
        have h32' : (q : Int) < 32 := by omega
        clear hR h92 hne T hM
        go_enter Tryz.func173, Tryz.ntmps173
        go_wp2_with fail
        ((with_reducible refine C.mono ?_); rintro x w1 ⟨rfl, hb⟩)
        go_wp2
        go_ret3
        have := HR.out
        simp only [Prod.mk.injEq] at this
        obtain ⟨rfl, rfl, rfl⟩ := this
        exact ⟨rfl, hb⟩
      · rw [if_neg h32] at hR
        have HR := Lib.hid hR
        have h32' : ¬ ((q : Int) < 32) := by omega
        clear hR h92 hne T hM
        go_enter Tryz.func173, Tryz.ntmps173
        go_wp2_with fail
        ((with_reducible refine C.mono ?_); rintro x w1 ⟨rfl, hb⟩)
        go_wp2
        go_ret3
        have := HR.out
        simp only [Prod.mk.injEq] at this
        obtain ⟨rfl, rfl, rfl⟩ := this
        exact ⟨rfl, hb⟩
    · rw [if_neg hw] at hR
      have C := next_no s w T (by omega)
      by_cases hfl : Utf.full (bl s) = true
      · rw [if_pos hfl] at hR
        have HR := Lib.hid hR
        have HF := Lib.hid hfl
        clear hR h92 hne T hM hw hfl
        go_enter Tryz.func173, Tryz.ntmps173
        go_wp2_with fail
        ((with_reducible refine C.mono ?_); rintro x w1 ⟨rfl, hb⟩)
        go_wp2_with fail
        ((with_reducible refine (full_is s w1 (HT.out.later hb) h0 hm true HF.out).mono ?_); rintro x w2 ⟨rfl, hb2⟩)
        go_wp2
        go_ret3
        have := HR.out
        simp only [Prod.mk.injEq] at this
        obtain ⟨rfl, rfl, rfl⟩ := this
        exact ⟨rfl, up hb hb2⟩
      · rw [if_neg hfl] at hR
        have HR := Lib.hid hR
        have HF := Lib.hid (show Utf.full (bl s) = false by simpa using hfl)
        clear hR h92 hne T hM hw hfl
        go_enter Tryz.func173, Tryz.ntmps173
        go_wp2_with fail
        ((with_reducible refine C.mono ?_); rintro x w1 ⟨rfl, hb⟩)
        go_wp2_with fail
        ((with_reducible refine (full_is s w1 (HT.out.later hb) h0 hm false HF.out).mono ?_); rintro x w2 ⟨rfl, hb2⟩)
        go_wp2
        go_ret3
        have := HR.out
        simp only [Prod.mk.injEq] at this
        obtain ⟨rfl, rfl, rfl⟩ := this
        exact ⟨rfl, up hb hb2⟩

theorem paired_esc (w : World) :
    Calls Tryz.prog 171 #[.string ⟨#[34, 92, 98, 102, 110, 114, 116, 47]⟩, .string ⟨#[34, 92, 8, 12, 10, 13, 9, 47]⟩] w fun e w' => e = .returned (.map (some w.heap.size)) ∧ IsMap w' w.heap.size escL ∧ Below w.heap.size w w' := by
  have := paired ⟨#[34, 92, 98, 102, 110, 114, 116, 47]⟩ ⟨#[34, 92, 8, 12, 10, 13, 9, 47]⟩ w 8 rfl rfl (by decide) (by decide)
    (fun i j hij hj => (by decide : ∀ j, j < 8 → ∀ i, i < j → (bl ⟨#[34, 92, 98, 102, 110, 114, 116, 47]⟩).getD i 0 ≠ (bl ⟨#[34, 92, 98, 102, 110, 114, 116, 47]⟩).getD j 0) j hj i hij)
  exact this
/-- What is read, from a place on, with what was read ahead of it. -/
def fin (o : List Nat) (i : Nat) (u : List Nat × Nat × Nat) : List Nat × Nat × Nat := if u.2.2 ≠ 0 then ([], 0, u.2.2) else (o ++ u.1, i + u.2.1, 0)
theorem unq_fin (l : List Nat) (h : l ≠ []) (h0 : l.getD 0 0 = 34) : Utf.unq l = fin [] 1 (Utf.ub (l.drop 1)) := by
  unfold Utf.unq fin
  rw [if_neg h, if_neg (by omega)]
  by_cases h1 : (Utf.ub (l.drop 1)).2.2 ≠ 0
  · rw [if_pos h1, if_pos h1]
  · rw [if_neg h1, if_neg h1, Nat.add_comm]; rfl
theorem fin_part (l : List Nat) (hl : ∀ x ∈ l, x < 256) (h : l ≠ []) (h0 : l.getD 0 0 ≠ 34) (o : List Nat) (i r n : Nat) (hp : Utf.part l = (r, n, 0)) :
    fin o i (Utf.ub l) = fin (o ++ Utf.enc r) (i + n) (Utf.ub (l.drop n)) := by
  rw [Utf.ub_step l hl h, if_neg h0, hp]
  unfold fin
  by_cases h1 : (Utf.ub (l.drop n)).2.2 ≠ 0
  · simp [h1]
  · simp at h1; simp [h1, Nat.add_assoc]
theorem fin_err (l : List Nat) (hl : ∀ x ∈ l, x < 256) (h : l ≠ []) (h0 : l.getD 0 0 ≠ 34) (o : List Nat) (i r n e : Nat) (hp : Utf.part l = (r, n, e)) (he : e ≠ 0) : fin o i (Utf.ub l) = ([], 0, e) := by
  rw [Utf.ub_step l hl h, if_neg h0, hp]
  unfold fin
  simp [he]
theorem fin_end (l : List Nat) (hl : ∀ x ∈ l, x < 256) (h : l ≠ []) (h0 : l.getD 0 0 = 34) (o : List Nat) (i : Nat) : fin o i (Utf.ub l) = (o, i + 1, 0) := by
  rw [Utf.ub_step l hl h, if_pos h0]
  unfold fin
  simp
/-- What Unquote hands back. -/
def quad (t : List Nat) (n e : Nat) : Ending := .returned (.tuple #[.string (str t), .int .i64 (n : Nat), .int .i64 (e : Nat)])
theorem str_nil : str [] = ⟨#[]⟩ := rfl
theorem esc_len (l : List Nat) : (Utf.esc l).2.1 ≤ 12 := by
  unfold Utf.esc
  repeat' split
  all_goals simp

set_option maxHeartbeats 4000000 in
set_option maxRecDepth 100000 in
theorem unquote (s : ByteArray) (w : World) (T : Tab w) (hm : s.size ≤ 1000000) (t : List Nat) (n e : Nat) (hR : Utf.unq (bl s) = (t, n, e)) :
    Calls Tryz.prog 147 #[.string s] w fun x w' => x = quad t n e ∧ Below w.heap.size w w' := by
  have hmm : s.size ≤ maxLen := by unfold maxLen; omega
  by_cases h0 : s.size = 0
  · have hz : bl s = [] := bl_nil.2 h0
    rw [hz, show Utf.unq [] = ([], 0, 3) from rfl] at hR
    have hq : (s.toList == (⟨#[]⟩ : ByteArray).toList) = true := by rw [bl_eq, hz]; rfl
    have hq2 : s.toList.isEmpty = true := by rw [bl_empty, hz]; rfl
    have hq3 : s.toList = [] := by simpa using hq2
    have HR := Lib.hid hR
    clear hR hz h0
    go_enter Tryz.func147, Tryz.ntmps147
    go_wp2
    go_ret3
    have := HR.out
    simp only [Prod.mk.injEq] at this
    obtain ⟨rfl, rfl, rfl⟩ := this
    exact ⟨rfl, Below.refl _ _⟩
  · have hne : bl s ≠ [] := fun e => h0 (bl_nil.1 e)
    have hq : (s.toList == (⟨#[]⟩ : ByteArray).toList) = false := by rw [bl_eq]; exact decide_eq_false hne
    have hq2 : s.toList.isEmpty = false := by rw [bl_empty]; exact decide_eq_false hne
    have hq3 : ¬ s.toList = [] := by simpa using hq2
    have hd0 : decide (0 < s.size) = true := by simp; omega
    have hx0 := bl_at s 0 (by omega)
    by_cases h34 : (bl s).getD 0 0 = 34
    · have HU := Lib.hid ((unq_fin _ hne h34).symm.trans hR)
      rw [h34] at hx0
      clear hR hne h34
      go_enter Tryz.func147, Tryz.ntmps147
      go_wp2_with fail
      ((with_reducible refine (paired_esc w).mono ?_); rintro x w1 ⟨rfl, hM1, hb1⟩)
      go_wp2
      have HB0 := Lib.hid (Bld.fresh w1)
      have HM1 := Lib.hid (hM1.later ((Below.refl _ _).alloc (Nat.le_refl _) (.cells #[.pointer none, .slice none 0 0] 120)))
      have hlt := hM1.lt
      have HN := Lib.hid ((Below.refl _ w1).alloc (Nat.le_refl _) (.cells #[.pointer none, .slice none 0 0] 120))
      have hws := hb1.size
      clear hM1 hx0
      go_loopw [7] (fun v wr => ∃ (i : Nat) (o : List Nat), 1 ≤ i ∧ i ≤ s.size ∧ v = .int .i64 i ∧ Bld w1.heap.size w1.heap.size o wr ∧ IsMap wr w.heap.size escL ∧ Below w1.heap.size w1 wr ∧ o.length ≤ 4 * i ∧ Hid (fin o i (Utf.ub ((bl s).drop i)) = (t, n, e))) (fun v _ => s.size - (intOf v).toNat)
      case atStart => exact ⟨1, [], by omega, by omega, rfl, HB0.out, HM1.out, HN.out, by simp, HU⟩
      case round =>
        clear HB0 HM1 HN HU
        obtain ⟨i, o, hi1, his, rfl, hB, hM, hbw, hol, HF⟩ := hrel
        have hsz := hbw.size
        have hbl := hB.lt
        by_cases hlt2 : i < s.size
        · have hx := bl_at s i hlt2
          have hdb := Utf.drop_byte (bl_byte s) i
          have hdn : (bl s).drop i ≠ [] := fun e => by have := congrArg List.length e; simp [bl_length] at this; omega
          have hd0 : ((bl s).drop i).getD 0 0 = (bl s).getD i 0 := by simp [List.getD_eq_getElem?_getD, List.getElem?_drop]
          by_cases h34 : (bl s).getD i 0 = 34
          · rw [h34] at hx
            have HE := Lib.hid ((fin_end _ hdb hdn (by rw [hd0]; exact h34) o i).symm.trans HF.out)
            have HBB := Lib.hid hB
            clear hdb hdn hd0 h34 HF hB hM
            go_wp2_with fail
            ((with_reducible refine (bString _ _ _ _ HBB.out (Nat.le_of_lt hbl)).mono ?_); rintro x w2 ⟨rfl, hb2⟩)
            go_wp2
            go_ret3
            have := HE.out
            simp only [Prod.mk.injEq] at this
            obtain ⟨e1, e2, e3⟩ := this
            refine ⟨?_, hb1.trans ((hbw.trans hb2).mono hws)⟩
            unfold quad
            rw [← e1, ← e2, ← e3]
            rfl
          · obtain ⟨⟨r, nn, ee⟩, hp⟩ : ∃ p, Utf.part ((bl s).drop i) = p := ⟨_, rfl⟩
            have hne34 : ((bl s).drop i).getD 0 0 ≠ 34 := by rw [hd0]; exact h34
            have hpg := Utf.part_good _ hdb hne34
            have hus : (s.extract i s.size).size ≤ maxLen := by rw [ByteArray.size_extract]; omega
            have hu0 : 0 < (s.extract i s.size).size := by rw [ByteArray.size_extract]; omega
            have hT2 : Tab wr := (T.later hb1).below (B := w1.heap.size) (T.later hb1).size hbw
            have CP := takePart (s.extract i s.size) w.heap.size wr hT2 hM hus hu0 r nn ee (by rw [bl_from]; exact hp)
            unfold trip at CP
            have d34 : (((bl s).getD i 0 : Nat) == 34) = false := by rw [beq_eq_false_iff_ne]; exact h34
            have d341 : ((((bl s).getD i 0 : Nat) : Int) == 34) = false := by rw [beq_eq_false_iff_ne]; omega
            have hlt3 : (i : Int) ≤ s.size := by omega
            rw [hp] at hpg
            generalize (bl s).getD i 0 = c at *
            by_cases hee : ee ≠ 0
            · have HE := Lib.hid ((fin_err _ hdb hdn hne34 o i r nn ee hp hee).symm.trans HF.out)
              have d1 : ((ee : Int) != 0) = true := by simp; omega
              have d2 : ((ee : Int) == 0) = false := by rw [beq_eq_false_iff_ne]; omega
              have HBW := Lib.hid hbw
              clear hdb hdn hd0 h34 HF hB hM hpg hp hne34 hee hT2 hbw d34
              go_wp2_with fail
              ((with_reducible refine CP.mono ?_); rintro x w2 ⟨rfl, hb2⟩)
              go_wp2
              go_ret3
              have := HE.out
              simp only [Prod.mk.injEq] at this
              obtain ⟨rfl, rfl, rfl⟩ := this
              exact ⟨rfl, hb1.trans ((HBW.out.trans (hb2.mono hsz)).mono hws)⟩
            · obtain rfl : ee = 0 := by omega
              obtain ⟨g1, g2, g3, g4⟩ := hpg rfl
              rw [List.length_drop, bl_length] at g3
              simp only at g1 g2 g3
              have HF2 := Lib.hid ((fin_part _ hdb hdn hne34 o i r nn hp).symm.trans HF.out)
              rw [List.drop_drop] at HF2
              have hel := Utf.enc_len r
              have HBB := Lib.hid hB
              have HMM := Lib.hid hM
              have HBW := Lib.hid hbw
              have G1 := Lib.hid g1
              clear hdb hdn hd0 h34 HF hB hM hpg hp hne34 hee hT2 hbw d34 g4 g1
              go_wp2_with fail
              ((with_reducible refine CP.mono ?_); rintro x w2 ⟨rfl, hb2⟩)
              have hBl2 := HBB.out.later hb2
              go_wp2_with fail
              ((with_reducible refine (writeRune w1.heap.size w1.heap.size o r w2 hBl2 G1.out (by omega) (by have := hb2.size; omega)).mono ?_); rintro x w3 ⟨⟨nq, rfl⟩, hwr⟩)
              have HWR := Lib.hid hwr
              have HB2 := Lib.hid hb2
              clear hwr hBl2 hb2
              go_wp2
              go_roundw
              case rel =>
                obtain ⟨k1, k2, k3⟩ := HWR.out
                refine ⟨i + nn, o ++ Utf.enc r, by omega, by omega, by go_num, k1, ?_, (HBW.out.trans (HB2.out.mono hsz)).trans k2, by rw [List.length_append]; omega, HF2⟩
                exact (k2.block _ hlt).trans (HMM.out.later HB2.out)
              case measure => simp [intOf]; omega
        · have hi : i = s.size := by omega
          have hnil : (bl s).drop i = [] := List.drop_of_length_le (by rw [bl_length]; omega)
          have hE := HF.out
          rw [hnil, Utf.ub_nil, show fin o i ([], 0, 3) = ([], 0, 3) from rfl] at hE
          have HE := Lib.hid hE
          have hlt3 : ¬ ((i : Int) < s.size) := by omega
          clear hE hnil HF hB hM hi
          go_wp2
          go_ret3
          have := HE.out
          simp only [Prod.mk.injEq] at this
          obtain ⟨rfl, rfl, rfl⟩ := this
          exact ⟨rfl, hb1.trans (hbw.mono hws)⟩
    · have hE := hR
      unfold Utf.unq at hE
      rw [if_neg hne, if_pos h34] at hE
      have HE := Lib.hid hE
      have hxb := Utf.getD_byte (bl_byte s) 0
      generalize (bl s).getD 0 0 = c at *
      have d34 : ((c : Int) == 34) = false := by rw [beq_eq_false_iff_ne]; omega
      have d34' : ((c : Int) != 34) = true := by simp; omega
      clear hE hR hne h34
      go_enter Tryz.func147, Tryz.ntmps147
      go_wp2
      go_ret3
      have := HE.out
      simp only [Prod.mk.injEq] at this
      obtain ⟨rfl, rfl, rfl⟩ := this
      exact ⟨rfl, Below.refl _ _⟩
end Go.Proofs.YtanjdjiigfdnmaaGreatDoor
