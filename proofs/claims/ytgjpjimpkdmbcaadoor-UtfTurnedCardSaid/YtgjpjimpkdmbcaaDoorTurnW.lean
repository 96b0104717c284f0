/- UtfTurned's walk. -/
import Derived.Test.YtgjpjimpkdmbcaaDoorNextW
import Derived.Deep.RegionHeld3
import Derived.BigRegion
namespace Go.Proofs.YtgjpjimpkdmbcaaDoor
open Go.RowKit
set_option linter.unusedVariables false

theorem enc_head (r : Nat) (h : Utf.isr r) : ∃ a u, Utf.enc r = a :: u ∧ (Utf.enc r).length = if a < 128 then 1 else if a < 224 then 2 else if a < 240 then 3 else 4 := by
  unfold Utf.isr at h
  unfold Utf.enc
  by_cases h1 : r < 128
  · exact ⟨r, [], by simp [h1], by simp [h1]⟩
  · by_cases h2 : r < 2048
    · refine ⟨192 + r / 64, [128 + r % 64], by simp [h1, h2], ?_⟩
      rw [if_neg h1, if_pos h2, if_neg (by omega), if_pos (by omega)]; rfl
    · by_cases h3 : r < 65536
      · refine ⟨224 + r / 4096, [128 + r / 64 % 64, 128 + r % 64], by simp [h1, h2, h3], ?_⟩
        rw [if_neg h1, if_neg h2, if_pos h3, if_neg (by omega), if_neg (by omega), if_pos (by omega)]; rfl
      · refine ⟨240 + r / 262144, [128 + r / 4096 % 64, 128 + r / 64 % 64, 128 + r % 64], by simp [h1, h2, h3], ?_⟩
        rw [if_neg h1, if_neg h2, if_neg h3, if_neg (by omega), if_neg (by omega), if_neg (by omega)]; rfl
/-- A text with one byte turned. -/
def turned (l : List Nat) (k c : Nat) : List Nat := l.take k ++ c :: l.drop (k + 1)
theorem tail_cont (r : Nat) (h : Utf.isr r) (hr : 128 ≤ r) : ∀ x ∈ (Utf.enc r).drop 1, 128 ≤ x ∧ x < 192 := by
  intro x hx
  unfold Utf.enc at hx
  repeat' split at hx
  all_goals simp at hx
  all_goals omega
theorem nw_cont (a : Nat) (t : List Nat) (h : 128 ≤ a ∧ a < 192) : Utf.nw (a :: t) = 0 := by
  have hd : Utf.dec (a :: t) = (65533, 1) := by
    unfold Utf.dec Lib.decodeN
    simp only [List.getD_cons_zero]
    rw [if_neg (by omega), if_neg (by omega), if_neg (by omega), if_neg (by omega)]
  unfold Utf.nw
  rw [hd]; simp
theorem vld_turned : ∀ (rs : List Nat) (k c : Nat), (∀ r ∈ rs, Utf.isr r) → c < 128 → k < (Utf.encs rs).length → Utf.vld (turned (Utf.encs rs) k c) = decide ((Utf.encs rs).getD k 0 < 128)
  | [], k, c, _, _, hk => by simp [Utf.encs] at hk
  | r :: rs, k, c, h, hc, hk => by
    have hr := h r (List.mem_cons_self ..)
    have hrs := fun x hx => h x (List.mem_cons_of_mem r hx)
    rw [Utf.encs_cons] at hk ⊢
    by_cases hkl : k < (Utf.enc r).length
    · have e : turned (Utf.enc r ++ Utf.encs rs) k c = turned (Utf.enc r) k c ++ Utf.encs rs := by
        unfold turned
        rw [List.take_append_of_le_length (by omega), List.drop_append_of_le_length (by omega)]
        simp
      have eg : (Utf.enc r ++ Utf.encs rs).getD k 0 = (Utf.enc r).getD k 0 := by
        rw [List.getD_eq_getElem?_getD, List.getD_eq_getElem?_getD, List.getElem?_append_left hkl]
      rw [e, eg]
      by_cases h1 : r < 128
      · rw [Utf.enc_low r h1] at hkl ⊢
        obtain rfl : k = 0 := by simp at hkl; omega
        have : turned [r] 0 c ++ Utf.encs rs = Utf.enc c ++ Utf.encs rs := by rw [Utf.enc_low c hc]; rfl
        rw [this, Utf.vld_enc c _ (.inl (by omega)), Utf.vld_of _ hrs]
        simp [h1]
      · have hge : 128 ≤ (Utf.enc r).getD k 0 := by
          rw [List.getD_eq_getElem?_getD, List.getElem?_eq_getElem hkl]
          exact Utf.enc_high r (by omega) _ (List.getElem_mem _)
        rw [decide_eq_false (by omega)]
        obtain ⟨a, u, hau, hlen⟩ := enc_head r hr
        rcases Nat.eq_zero_or_pos k with hk0 | hk0
        · subst hk0
          have htc := tail_cont r hr (by omega)
          rw [hau] at htc
          have ha2 : 128 ≤ a := by rw [hau] at hge; exact hge
          have hl2 : 2 ≤ (Utf.enc r).length := by rw [hlen]; repeat' split
                                                  all_goals omega
          rw [hau] at hl2 ⊢
          match u, hl2, htc with
          | b :: u', _, htc =>
            have hb := htc b (by simp)
            have e2 : turned (a :: b :: u') 0 c ++ Utf.encs rs = Utf.enc c ++ (b :: (u' ++ Utf.encs rs)) := by rw [Utf.enc_low c hc]; rfl
            rw [e2, Utf.vld_enc c _ (.inl (by omega)), Utf.vld_step _ (by simp), nw_cont b _ hb]
            simp
        · have hb : ∀ x ∈ turned (Utf.enc r) k c ++ Utf.encs rs, x < 256 := by
            intro x hx
            rcases List.mem_append.1 hx with hx | hx
            · rcases List.mem_append.1 hx with hx | hx
              · exact Utf.enc_byte r hr x (List.mem_of_mem_take hx)
              · rcases List.mem_cons.1 hx with rfl | hx
                · omega
                · exact Utf.enc_byte r hr x (List.mem_of_mem_drop hx)
            · exact Utf.encs_byte rs hrs x hx
          have hne : turned (Utf.enc r) k c ++ Utf.encs rs ≠ [] := fun e => by
            have := congrArg List.length e
            rw [List.length_append] at this
            unfold turned at this
            simp only [List.length_append, List.length_cons, List.length_nil] at this
            omega
          have hz : Utf.nw (turned (Utf.enc r) k c ++ Utf.encs rs) = 0 := by
            rcases Nat.eq_zero_or_pos (Utf.nw (turned (Utf.enc r) k c ++ Utf.encs rs)) with h0 | h0
            · exact h0
            · exfalso
              obtain ⟨i1, i2, i3, i4⟩ := Utf.nx_some _ hb (by omega)
              generalize Utf.nr (turned (Utf.enc r) k c ++ Utf.encs rs) = q at *
              obtain ⟨a2, u2, hau2, hlen2⟩ := enc_head q i1
              have g0 : (turned (Utf.enc r) k c ++ Utf.encs rs).getD 0 0 = a := by
                unfold turned
                obtain ⟨j, rfl⟩ : ∃ j, k = j + 1 := ⟨k - 1, by omega⟩
                rw [hau]; simp
              have g1 : (turned (Utf.enc r) k c ++ Utf.encs rs).getD 0 0 = a2 := by
                conv => lhs; rw [i2]
                rw [hau2]; rfl
              have ea : a2 = a := g1.symm.trans g0
              subst ea
              have hL : (Utf.enc q).length = (Utf.enc r).length := hlen2.trans hlen.symm
              have ha2 : 128 ≤ a2 := by
                have := Utf.enc_high r (by omega) a2 (by rw [hau]; exact List.mem_cons_self ..)
                exact this
              have hq128 : 128 ≤ q := by
                rcases Nat.lt_or_ge q 128 with hq | hq
                · rw [Utf.enc_low q hq] at hau2; injection hau2; omega
                · exact hq
              have gk : (turned (Utf.enc r) k c ++ Utf.encs rs).getD k 0 = c := by
                unfold turned
                have hlt : ((Utf.enc r).take k).length = k := by rw [List.length_take]; omega
                rw [List.append_assoc, List.getD_eq_getElem?_getD, List.getElem?_append_right (by omega), hlt]
                simp
              have gk2 : 128 ≤ (turned (Utf.enc r) k c ++ Utf.encs rs).getD k 0 := by
                conv => rhs; rw [i2]
                rw [List.getD_eq_getElem?_getD, List.getElem?_append_left (by omega), List.getElem?_eq_getElem (by omega)]
                exact Utf.enc_high q hq128 _ (List.getElem_mem _)
              omega
          rw [Utf.vld_step _ hne, hz]
          simp
    · have e : turned (Utf.enc r ++ Utf.encs rs) k c = Utf.enc r ++ turned (Utf.encs rs) (k - (Utf.enc r).length) c := by
        unfold turned
        rw [List.take_append, List.take_of_length_le (by omega), List.drop_append, List.drop_of_length_le (by omega)]
        rw [show k + 1 - (Utf.enc r).length = k - (Utf.enc r).length + 1 by omega]
        simp
      have eg : (Utf.enc r ++ Utf.encs rs).getD k 0 = (Utf.encs rs).getD (k - (Utf.enc r).length) 0 := by
        rw [List.getD_eq_getElem?_getD, List.getD_eq_getElem?_getD, List.getElem?_append_right (by omega)]
      rw [e, eg, Utf.vld_enc r _ hr]
      rw [List.length_append] at hk
      exact vld_turned rs _ c hrs hc (by omega)

theorem conv_litd (w : World) (l : List Nat) (c : Array Value) (n : Nat) (hc : c.toList = vals l) (hn : n = l.length) (hb : ∀ x ∈ l, x < 256) (hm : l.length ≤ 100000) :
    (convert 46 9 (.slice (some ⟨w.heap.size, 0, none⟩) n n)).run Tryd.prog (w.alloc (.cells c 5)).drew = .ok (.string (str l)) (w.alloc (.cells c 5)).drew := by
  subst hn
  refine run_str _ (w.heap.size + 1) _ l ⟨_, _, rfl, Nat.le_refl _, by simp only [maxLen]; omega, by simp, hb, fun hp => ⟨w.heap.size, 0, rfl, by omega, fun k hk => ?_⟩⟩
  have := (Blk.new w 5 c).drew.cell (0 + k)
  rw [this, hc]
  simp [vals, List.getElem?_eq_getElem hk]
set_option maxHeartbeats 4000000 in
set_option maxRecDepth 100000 in
theorem utfTurned (v : Value) (l : List Int) (x c : Int) (w : World) (hl : RdI w w.heap.size v l) (x0 : -9223372036854775808 ≤ x) (x1 : x ≤ 9223372036854775807) (c0 : 0 ≤ c) (c1 : c ≤ 255) (T : Tab w) :
    Calls Tryd.prog 11 #[v, .int .i64 x, .int .u8 c] w fun e w' => e = .returned (.bool true) ∧ Below w.heap.size w w' := by
  have HT := Lib.hid T
  have hrs := runes_rune l
  have hbt := textB_byte l
  have htl := textB_len l
  have hs1 := str_size (textB l)
  have hb1 := bl_str _ hbt
  have CT := text v l w hl
  have hvl : Utf.vld (textB l) = true := Utf.vld_of _ hrs
  have CV1 : ∀ w', Tab w' → Calls Tryd.prog 17 #[.string (str (textB l))] w' fun e w2 => e = .returned (.bool true) ∧ Below w'.heap.size w' w2 := fun w' T' => valid _ w' T' (by rw [hs1]; unfold maxLen; omega) _ (by rw [hb1]; exact hvl)
  have hturn := vld_turned (runes l)
  change ∀ k c, (∀ r ∈ runes l, Utf.isr r) → c < 128 → k < (textB l).length → Utf.vld (turned (textB l) k c) = decide ((textB l).getD k 0 < 128) at hturn
  rw [← hs1] at htl
  have hturn2 := fun k c => hturn k c hrs
  rw [← hs1] at hturn2
  have hbl2 : textB l = bl (str (textB l)) := hb1.symm
  rw [hbl2] at hturn2
  rw [← hbl2] at hturn2
  have ht0 : bl (str (textB l)) = textB l := hb1
  generalize str (textB l) = t at *
  rw [← ht0] at hturn2
  clear hturn hbl2 hb1 hs1 hvl hbt hrs hl T ht0
  have HCV1 := Lib.hid CV1
  have HTU := Lib.hid hturn2
  clear CV1 hturn2
  by_cases h0 : t.size = 0
  · have hz : bl t = [] := bl_nil.2 h0
    have hq2 : t.toList.isEmpty = true := by rw [bl_empty, hz]; rfl
    have hq3 : t.toList = [] := by simpa using hq2
    clear hz h0
    go_enter Tryd.func11, Tryd.ntmps11
    go_wp2_with fail
    ((with_reducible refine CT.mono ?_); rintro x w' ⟨rfl, rfl⟩)
    go_wp2_with fail
    ((with_reducible refine (HCV1.out w HT.out).mono ?_); rintro x w1 ⟨rfl, b1⟩)
    go_wp2_with fail
    ((with_reducible refine (works w1 (HT.out.later b1)).mono ?_); rintro x w2 ⟨rfl, b2⟩)
    have B2 := Lib.hid (up b1 b2)
    clear b1 b2
    go_wp2
    go_ret
    exact ⟨rfl, B2.out⟩
  · have hne : bl t ≠ [] := fun e => h0 (bl_nil.1 e)
    have hq2 : t.toList.isEmpty = false := by rw [bl_empty]; exact decide_eq_false hne
    have hq3 : ¬ t.toList = [] := by simpa using hq2
    have CB := bring x (t.size : Int) w x0 x1 (by omega) (by omega)
    have hk0 := Int.emod_nonneg x (b := (t.size : Int)) (by omega)
    have hk1 := Int.emod_lt_of_pos x (b := (t.size : Int)) (by omega)
    obtain ⟨k, hk⟩ : ∃ k : Nat, x % (t.size : Int) = k := ⟨(x % (t.size : Int)).toNat, by omega⟩
    rw [hk] at CB hk0 hk1
    obtain ⟨d, hd⟩ : ∃ d : Nat, c % 128 = d := ⟨(c % 128).toNat, by omega⟩
    have hd128 : d < 128 := by omega
    have hkl : k < t.size := by omega
    have hx := bl_at t k hkl
    have hxb := Utf.getD_byte (bl_byte t) k
    have htv := HTU.out k d hd128 hkl
    have hu : bl (t.extract 0 k ++ str [d] ++ t.extract (k + 1) t.size) = turned (bl t) k d := by
      rw [bl_append, bl_append, bl_to, bl_from, bl_str _ (by simp; omega)]
      unfold turned; simp
    have hus : (t.extract 0 k ++ str [d] ++ t.extract (k + 1) t.size).size ≤ 1000 := by
      rw [← bl_length, hu]; unfold turned
      simp [bl_length]; omega
    have CV2 : ∀ w', Tab w' → Calls Tryd.prog 17 #[.string (t.extract 0 k ++ str [d] ++ t.extract (k + 1) t.size)] w' fun e w2 => e = .returned (.bool (decide ((bl t).getD k 0 < 128))) ∧ Below w'.heap.size w' w2 := fun w' T' => valid _ w' T' (by unfold maxLen; omega) _ (by rw [hu]; exact htv)
    have hn1 := no_over (t.extract 0 k) (str [d]) (by rw [ByteArray.size_extract, str_size]; simp; omega)
    have hn2 := no_over (t.extract 0 k ++ str [d]) (t.extract (k + 1) t.size) (by rw [← bl_length, bl_append, List.length_append, bl_length, bl_length, ByteArray.size_extract, ByteArray.size_extract, str_size]; simp; omega)
    have hcm : c.tmod 128 = (d : Int) := by rw [Int.tmod_eq_emod_of_nonneg c0, hd]
    have hw1 : IntKind.i64.wrap ((k : Int) + 1) = (k : Int) + 1 := IntWalk.i64_in _ ⟨by omega, by omega⟩
    have hcv := conv_litd w [d] #[.int .u8 (d : Nat)] 1 rfl rfl (by simp; omega) (by simp)
    have hk2 : k ≤ t.size := by omega
    have hk3 : (k : Int) + 1 ≤ t.size := by omega
    have hk4 : k + 1 ≤ t.size := by omega
    generalize (bl t).getD k 0 = y at *
    clear htv hu hne h0 HTU
    have HCV2 := Lib.hid CV2
    clear CV2
    go_enter Tryd.func11, Tryd.ntmps11
    go_wp2_with fail
    ((with_reducible refine CT.mono ?_); rintro x w' ⟨rfl, rfl⟩)
    go_wp2_with fail
    ((with_reducible refine CB.mono ?_); rintro x w' ⟨rfl, rfl⟩)
    go_wp2
    go_region
    have B0 : Below w.heap.size w (w.alloc (.cells #[.int .u8 (d : Nat)] 5)).drew := ((Below.refl _ _).alloc (Nat.le_refl _) _).drew
    clear hcv
    generalize (w.alloc (.cells #[.int .u8 (d : Nat)] 5)).drew = W0 at *
    generalize t.extract 0 k ++ str [d] ++ t.extract (k + 1) t.size = u at *
    have T0d : Tab W0.drew := HT.out.later B0.drew
    have B0d : Below w.heap.size w W0.drew := B0.drew
    have HB0 := Lib.hid B0d
    have HT0 := Lib.hid T0d
    clear B0 B0d T0d CT CB hn1 hn2 hw1 hcm hk
    by_cases hy : y < 128
    · have hy1 : (y : Int) < 128 := by omega
      have hy2 : decide (y < 128) = true := by simp; omega
      rw [hy2] at HCV2
      clear hy
      go_wp2
      go_region_held3 (fun _ => True) (trivial)
        (first
        | (go_at_call 17; ((with_reducible refine (HCV1.out _ HT0.out).mono ?_); rintro x w1 ⟨rfl, b1⟩; have HT1 := Lib.hid (HT.out.later (up HB0.out b1)); have HB1 := Lib.hid (up HB0.out b1); clear b1))
        | (go_at_call 17; ((with_reducible refine (HCV2.out _ HT1.out).mono ?_); rintro x w2 ⟨rfl, b2⟩; have HT2 := Lib.hid (HT.out.later (up HB1.out b2)); have HB2 := Lib.hid (up HB1.out b2); clear b2))
        | (go_at_call 19; ((with_reducible refine (works _ HT2.out).mono ?_); rintro x w3 ⟨rfl, b3⟩; have HB3 := Lib.hid (up HB2.out b3); clear b3)))
      go_wp2
      all_goals (go_ret; exact ⟨rfl, HB3.out⟩)
    · have hy1 : ¬ ((y : Int) < 128) := by omega
      have hy2 : decide (y < 128) = false := by simp; omega
      have hy3 : decide ((y : Int) < 128) = false := by simp; omega
      rw [hy2] at HCV2
      clear hy
      go_wp2
      go_region_held3 (fun _ => True) (trivial)
        (first
        | (go_at_call 17; ((with_reducible refine (HCV1.out _ HT0.out).mono ?_); rintro x w1 ⟨rfl, b1⟩; have HT1 := Lib.hid (HT.out.later (up HB0.out b1)); have HB1 := Lib.hid (up HB0.out b1); clear b1))
        | (go_at_call 17; ((with_reducible refine (HCV2.out _ HT1.out).mono ?_); rintro x w2 ⟨rfl, b2⟩; have HT2 := Lib.hid (HT.out.later (up HB1.out b2)); have HB2 := Lib.hid (up HB1.out b2); clear b2))
        | (go_at_call 19; ((with_reducible refine (works _ HT2.out).mono ?_); rintro x w3 ⟨rfl, b3⟩; have HB3 := Lib.hid (up HB2.out b3); clear b3)))
      go_wp2
      all_goals (go_ret; exact ⟨rfl, HB3.out⟩)
end Go.Proofs.YtgjpjimpkdmbcaaDoor
