/- What is read of literals that runes are spelt as, plainly. -/
import Derived.Test.YtanjdjiigfdnmaaGreatDoorBeg
namespace Go.Proofs.YtanjdjiigfdnmaaGreatDoor.Utf
set_option linter.unusedVariables false

theorem dig_hexS (d : Nat) (h : d < 16) : dig (hex d) = d := by
  unfold dig hex
  by_cases h1 : d < 10
  · rw [if_pos h1, if_pos (by omega)]; omega
  · rw [if_neg h1, if_neg (by omega), if_pos (by omega)]; omega
theorem dig_hexC (d : Nat) (h : d < 16) : dig (hexC d) = d := by
  unfold dig hexC
  by_cases h1 : d < 10
  · rw [if_pos h1, if_pos (by omega)]; omega
  · rw [if_neg h1, if_neg (by omega), if_neg (by omega), if_pos (by omega)]; omega
theorem hxF_ok (second : Bool) (m k n c : Nat) (t : List Nat) (d : Nat) (hd : dig c = d) (hd2 : d < 16) (hb : bad second k (16 * n + d) = false) : hxF second (m + 1) k n (c :: t) = hxF second m (k + 1) (16 * n + d) t := by
  rw [hxF, hd, if_neg (by omega), hb]
  simp
/-- Four digits, read. -/
theorem hx_four (second : Bool) (a b c d : Nat) (t : List Nat) (da db dc dd : Nat) (ha : dig a = da) (hb : dig b = db) (hc : dig c = dc) (hd : dig d = dd) (a1 : da < 16) (b1 : db < 16) (c1 : dc < 16) (d1 : dd < 16)
    (h0 : second = true → da = 13) (h1 : second = (decide (220 ≤ 16 * da + db) && decide (16 * da + db ≤ 223))) : hx second (a :: b :: c :: d :: t) = (((da * 16 + db) * 16 + dc) * 16 + dd, 0) := by
  unfold hx
  rw [hxF_ok second 3 0 0 a _ da ha a1 (by cases second <;> simp [bad]; exact h0 rfl)]
  rw [hxF_ok second 2 1 _ b _ db hb b1 (by simp only [bad]; rw [Nat.mul_zero, Nat.zero_add, ← h1]; simp)]
  rw [hxF_ok second 1 2 _ c _ dc hc c1 (by simp [bad])]
  rw [hxF_ok second 0 3 _ d _ dd hd d1 (by simp [bad]), hxF]
  simp; omega
theorem hxF_cut (second : Bool) (m k n : Nat) : hxF second (m + 1) k n [] = (0, 3) := by rw [hxF]
/-- .. and cut off. -/
theorem hx_cut (second : Bool) (a b c d : Nat) (j : Nat) (hj : j < 4) (da db dc dd : Nat) (ha : dig a = da) (hb : dig b = db) (hc : dig c = dc) (hd : dig d = dd) (a1 : da < 16) (b1 : db < 16) (c1 : dc < 16) (d1 : dd < 16)
    (h0 : second = true → da = 13) (h1 : second = (decide (220 ≤ 16 * da + db) && decide (16 * da + db ≤ 223))) : hx second ([a, b, c, d].take j) = (0, 3) := by
  unfold hx
  rcases (show j = 0 ∨ j = 1 ∨ j = 2 ∨ j = 3 by omega) with rfl | rfl | rfl | rfl
  · exact hxF_cut _ _ _ _
  · show hxF second 4 0 0 [a] = _
    rw [hxF_ok second 3 0 0 a _ da ha a1 (by cases second <;> simp [bad]; exact h0 rfl)]
    exact hxF_cut _ _ _ _
  · show hxF second 4 0 0 [a, b] = _
    rw [hxF_ok second 3 0 0 a _ da ha a1 (by cases second <;> simp [bad]; exact h0 rfl)]
    rw [hxF_ok second 2 1 _ b _ db hb b1 (by simp only [bad]; rw [Nat.mul_zero, Nat.zero_add, ← h1]; simp)]
    exact hxF_cut _ _ _ _
  · show hxF second 4 0 0 [a, b, c] = _
    rw [hxF_ok second 3 0 0 a _ da ha a1 (by cases second <;> simp [bad]; exact h0 rfl)]
    rw [hxF_ok second 2 1 _ b _ db hb b1 (by simp only [bad]; rw [Nat.mul_zero, Nat.zero_add, ← h1]; simp)]
    rw [hxF_ok second 1 2 _ c _ dc hc c1 (by simp [bad])]
    exact hxF_cut _ _ _ _

/-- A way in which a rune is spelt: it is read as that rune; cut off, it is ErrTrunc. -/
structure Spell (r : Nat) (p : List Nat) : Prop where
  rune : isr r
  pos : 0 < p.length
  byte : ∀ x ∈ p, x < 256
  reads : ∀ t, part (p ++ t) = (r, p.length, 0)
  start : ∀ t, (p ++ t).getD 0 0 ≠ 34
  cut : ∀ j, 0 < j → j < p.length → part (p.take j) = (0, 0, 3)
theorem spell_self (r : Nat) (h : isr r) (h1 : 32 ≤ r) (h2 : r ≠ 34) (h3 : r ≠ 92) : Spell r (enc r) := by
  have hl := enc_len r
  have hst : ∀ t, (enc r ++ t).getD 0 0 = r ∧ r < 128 ∨ 128 ≤ (enc r ++ t).getD 0 0 := by
    intro t
    by_cases h : r < 128
    · left; rw [enc_low r h]; exact ⟨rfl, h⟩
    · right
      have := enc_high r (by omega)
      match hh : enc r, hl with
      | a :: u, _ =>
        rw [hh] at this
        exact this a (List.mem_cons_self ..)
  refine ⟨h, by omega, enc_byte r h, fun t => ?_, fun t => by rcases hst t with ⟨e, _⟩ | e <;> omega, fun j h0 hj => ?_⟩
  · unfold part
    rw [if_neg (by rcases hst t with ⟨e, _⟩ | e <;> omega), nw_enc r t h, if_pos (by omega), nr_enc r t h, if_neg (by omega)]
  · have hn := nw_prefix r j h hj
    have hf := full_prefix r j h h0 hj
    unfold part
    rw [hn, hf]
    have e : ((enc r).take j).getD 0 0 = (enc r ++ []).getD 0 0 := by
      rw [List.append_nil]
      simp [List.getD_eq_getElem?_getD, h0]
    rw [if_neg (by rw [e]; rcases hst [] with ⟨e, _⟩ | e <;> omega)]
    simp
theorem spell_short (r c : Nat) (hc : c < 256) (h : said c = r) (hr : r ≠ 0) (h117 : c ≠ 117) : Spell r [92, c] := by
  have hs := said_rune c (by omega)
  refine ⟨.inl (by omega), by simp, by simp; omega, fun t => ?_, fun t => by simp, fun j h0 hj => ?_⟩
  · unfold part esc
    simp [h117, h, hr]
  · obtain rfl : j = 1 := by simp at hj; omega
    simp [part, esc]
/-- \u and four digits of a number. -/
def four (dg : Nat → Nat) (n : Nat) : List Nat := [92, 117, dg (n / 4096), dg (n / 256 % 16), dg (n / 16 % 16), dg (n % 16)]
/-- Digits, in small letters or capitals. -/
def Digs (dg : Nat → Nat) : Prop := (∀ d, d < 16 → dig (dg d) = d) ∧ ∀ d, d < 16 → dg d < 256
theorem digs_small : Digs hex := ⟨dig_hexS, fun d h => by unfold hex; split <;> omega⟩
theorem digs_big : Digs hexC := ⟨dig_hexC, fun d h => by unfold hexC; split <;> omega⟩
theorem four_hx (dg : Nat → Nat) (hg : Digs dg) (second : Bool) (n : Nat) (hn : n < 65536) (t : List Nat) (h : second = (decide (56320 ≤ n) && decide (n ≤ 57343))) :
    hx second ((four dg n).drop 2 ++ t) = (n, 0) ∧ ∀ j, j < 4 → hx second (((four dg n).drop 2).take j) = (0, 3) := by
  have e0 : second = true → n / 4096 = 13 := fun e => by rw [e] at h; simp at h; omega
  have e1 : second = (decide (220 ≤ 16 * (n / 4096) + n / 256 % 16) && decide (16 * (n / 4096) + n / 256 % 16 ≤ 223)) := by
    rw [h, Bool.eq_iff_iff]; simp; omega
  constructor
  · have := hx_four second (dg (n / 4096)) (dg (n / 256 % 16)) (dg (n / 16 % 16)) (dg (n % 16)) t _ _ _ _ (hg.1 _ (by omega)) (hg.1 _ (by omega)) (hg.1 _ (by omega)) (hg.1 _ (by omega)) (by omega) (by omega) (by omega) (by omega) e0 e1
    show hx second (dg (n / 4096) :: dg (n / 256 % 16) :: dg (n / 16 % 16) :: dg (n % 16) :: t) = _
    rw [this]
    simp; omega
  · intro j hj
    exact hx_cut second (dg (n / 4096)) (dg (n / 256 % 16)) (dg (n / 16 % 16)) (dg (n % 16)) j hj _ _ _ _ (hg.1 _ (by omega)) (hg.1 _ (by omega)) (hg.1 _ (by omega)) (hg.1 _ (by omega)) (by omega) (by omega) (by omega) (by omega) e0 e1
theorem four_byte (dg : Nat → Nat) (hg : Digs dg) (n : Nat) (hn : n < 65536) : ∀ x ∈ four dg n, x < 256 := by
  intro x hx
  simp [four] at hx
  have h1 := hg.2 (n / 4096) (by omega)
  have h2 := hg.2 (n / 256 % 16) (by omega)
  have h3 := hg.2 (n / 16 % 16) (by omega)
  have h4 := hg.2 (n % 16) (by omega)
  rcases hx with rfl | rfl | rfl | rfl | rfl | rfl <;> omega
theorem spell_four (dg : Nat → Nat) (hg : Digs dg) (r : Nat) (h : isr r) (hr : r < 65536) : Spell r (four dg r) := by
  unfold isr at h
  obtain ⟨k1, k2⟩ := four_hx dg hg false r hr [] (by simp; omega)
  have k3 : ∀ t, hx false ((four dg r).drop 2 ++ t) = (r, 0) := fun t => (four_hx dg hg false r hr t (by simp; omega)).1
  refine ⟨h, by simp [four], four_byte dg hg r hr, fun t => ?_, fun t => by simp [four], fun j h0 hj => ?_⟩
  · have e : (four dg r ++ t).drop 2 = (four dg r).drop 2 ++ t := rfl
    unfold part esc
    rw [if_pos (by simp [four]), if_neg (by simp [four]), if_pos (by simp [four]), e, k3 t]
    simp only
    rw [if_neg (by omega), if_pos (by omega)]
    rfl
  · have hj6 : j < 6 := by simpa [four] using hj
    rcases (show j = 1 ∨ 2 ≤ j by omega) with rfl | h2
    · simp [part, esc, four]
    · have e : ((four dg r).take j).drop 2 = ((four dg r).drop 2).take (j - 2) := by rw [List.drop_take]
      have hl : ((four dg r).take j).length = j := by rw [List.length_take]; simp [four]; omega
      have g0 : ((four dg r).take j).getD 0 0 = 92 := by simp [four, List.getD_eq_getElem?_getD, show 0 < j by omega]
      have g1 : ((four dg r).take j).getD 1 0 = 117 := by simp [four, List.getD_eq_getElem?_getD, show 1 < j by omega]
      unfold part esc
      rw [if_pos g0, if_neg (by omega), if_pos g1, e, k2 (j - 2) (by omega)]
      simp
set_option maxRecDepth 100000 in
theorem spell_eight (dg : Nat → Nat) (hg : Digs dg) (r : Nat) (h : isr r) (hr : 65536 ≤ r) : Spell r (four dg (55296 + (r - 65536) / 1024) ++ four dg (56320 + (r - 65536) % 1024)) := by
  unfold isr at h
  generalize ha : 55296 + (r - 65536) / 1024 = a
  generalize hb : 56320 + (r - 65536) % 1024 = b
  have hL : ∀ n, (four dg n).length = 6 := fun n => rfl
  have k3 : ∀ t, hx false ((four dg a).drop 2 ++ t) = (a, 0) := fun t => (four_hx dg hg false a (by omega) t (by simp; omega)).1
  have k2 := (four_hx dg hg false a (by omega) [] (by simp; omega)).2
  have q3 : ∀ t, hx true ((four dg b).drop 2 ++ t) = (b, 0) := fun t => (four_hx dg hg true b (by omega) t (by simp; omega)).1
  have q2 := (four_hx dg hg true b (by omega) [] (by simp; omega)).2
  refine ⟨h, by simp [four], ?_, fun t => ?_, fun t => by simp [four], fun j h0 hj => ?_⟩
  · intro x hx
    rcases List.mem_append.1 hx with hx | hx
    · exact four_byte dg hg a (by omega) x hx
    · exact four_byte dg hg b (by omega) x hx
  · have e : (four dg a ++ four dg b ++ t).drop 2 = (four dg a).drop 2 ++ (four dg b ++ t) := rfl
    have e6 : (four dg a ++ four dg b ++ t).drop 6 = four dg b ++ t := rfl
    have e8 : (four dg a ++ four dg b ++ t).drop 8 = (four dg b).drop 2 ++ t := rfl
    unfold part esc
    rw [if_pos (by simp [four]), if_neg (by simp [four]), if_pos (by simp [four]), e, k3, e6, e8, q3]
    simp only
    rw [if_neg (by omega), if_neg (by omega), if_neg (by simp [pre, four]), if_neg (by omega)]
    rw [show 65536 + 1024 * (a - 55296) + (b - 56320) = r by omega]
    rfl
  · have hj12 : j < 12 := by simpa [four] using hj
    rcases (show j = 1 ∨ 2 ≤ j by omega) with rfl | h2
    · simp [part, esc, four]
    · have hl : ((four dg a ++ four dg b).take j).length = j := by rw [List.length_take]; simp [four]; omega
      have g0 : ((four dg a ++ four dg b).take j).getD 0 0 = 92 := by simp [four, List.getD_eq_getElem?_getD, show 0 < j by omega]
      have g1 : ((four dg a ++ four dg b).take j).getD 1 0 = 117 := by simp [four, List.getD_eq_getElem?_getD, show 1 < j by omega]
      unfold part esc
      rw [if_pos g0, if_neg (by omega), if_pos g1]
      by_cases h6 : j < 6
      · have e : ((four dg a ++ four dg b).take j).drop 2 = ((four dg a).drop 2).take (j - 2) := by
          rw [List.drop_take, show (four dg a ++ four dg b).drop 2 = (four dg a).drop 2 ++ four dg b from rfl, List.take_append_of_le_length (by simp [hL]; omega)]
        rw [e, k2 (j - 2) (by omega)]
        simp
      · have e : ((four dg a ++ four dg b).take j).drop 2 = (four dg a).drop 2 ++ (four dg b).take (j - 6) := by
          rw [List.drop_take, show (four dg a ++ four dg b).drop 2 = (four dg a).drop 2 ++ four dg b from rfl, List.take_append, List.take_of_length_le (by simp [hL]; omega)]
          simp [hL]; congr 1
        have e6 : ((four dg a ++ four dg b).take j).drop 6 = (four dg b).take (j - 6) := by
          rw [List.drop_take, show (four dg a ++ four dg b).drop 6 = four dg b from rfl]
        have e8 : ((four dg a ++ four dg b).take j).drop 8 = ((four dg b).drop 2).take (j - 8) := by
          rw [List.drop_take, show (four dg a ++ four dg b).drop 8 = (four dg b).drop 2 from rfl]
        rw [e, k3, e6, e8]
        simp only
        rw [if_neg (by omega), if_neg (by omega)]
        rcases (show j = 6 ∨ j = 7 ∨ 8 ≤ j by omega) with rfl | rfl | h8
        · simp [pre]
        · simp [pre, four]
        · have hp : pre ((four dg b).take (j - 6)) = 0 := by
            have hl2 : ((four dg b).take (j - 6)).length = j - 6 := by rw [List.length_take]; simp [four]; omega
            have f0 : ((four dg b).take (j - 6)).getD 0 0 = 92 := by simp [four, List.getD_eq_getElem?_getD, show 0 < j - 6 by omega]
            have f1 : ((four dg b).take (j - 6)).getD 1 0 = 117 := by simp [four, List.getD_eq_getElem?_getD, show 1 < j - 6 by omega]
            unfold pre
            rw [if_neg (by omega), if_neg (by omega), if_neg (by omega), if_neg (by omega)]
          rw [hp, q2 (j - 8) (by omega)]
          simp
/-- The tidy spelling is one of them. -/
theorem spell_tidy (r : Nat) (h : isr r) : Spell r (escR r) := by
  unfold escR
  by_cases h1 : r < 128
  · rw [if_pos h1]
    unfold escB
    repeat' split
    · subst_vars; exact spell_short 34 34 (by omega) rfl (by omega) (by omega)
    · subst_vars; exact spell_short 92 92 (by omega) rfl (by omega) (by omega)
    · subst_vars; exact spell_short 8 98 (by omega) rfl (by omega) (by omega)
    · subst_vars; exact spell_short 12 102 (by omega) rfl (by omega) (by omega)
    · subst_vars; exact spell_short 10 110 (by omega) rfl (by omega) (by omega)
    · subst_vars; exact spell_short 13 114 (by omega) rfl (by omega) (by omega)
    · subst_vars; exact spell_short 9 116 (by omega) rfl (by omega) (by omega)
    · have := spell_four hex digs_small r h (by omega)
      unfold four at this
      rw [show r / 4096 = 0 by omega, show r / 256 % 16 = 0 by omega, show r / 16 % 16 = r / 16 by omega] at this
      exact this
    · have := spell_self r h (by omega) (by omega) (by omega)
      rwa [enc_low r h1] at this
  · rw [if_neg h1]
    exact spell_self r h (by omega) (by omega) (by omega)
/-- Parts, one behind the other, and a quote. -/
theorem ub_spelt : ∀ (ps : List (Nat × List Nat)) (more : List Nat), (∀ x ∈ more, x < 256) → (∀ p ∈ ps, Spell p.1 p.2) →
    ub (ps.flatMap Prod.snd ++ 34 :: more) = (encs (ps.map Prod.fst), (ps.flatMap Prod.snd).length + 1, 0) ∧ (∀ x ∈ ps.flatMap Prod.snd ++ 34 :: more, x < 256)
  | [], more, hm, _ => by
    have hb : ∀ x ∈ 34 :: more, x < 256 := fun x hx => by
      rcases List.mem_cons.1 hx with rfl | hx
      · omega
      · exact hm x hx
    refine ⟨?_, hb⟩
    show ub (34 :: more) = _
    rw [ub_step _ hb (by simp), if_pos (by simp)]
    rfl
  | p :: ps, more, hm, h => by
    have hp := h p (List.mem_cons_self ..)
    obtain ⟨i1, i2⟩ := ub_spelt ps more hm fun q hq => h q (List.mem_cons_of_mem _ hq)
    have e : (p :: ps).flatMap Prod.snd ++ 34 :: more = p.2 ++ (ps.flatMap Prod.snd ++ 34 :: more) := by simp
    have hb : ∀ x ∈ p.2 ++ (ps.flatMap Prod.snd ++ 34 :: more), x < 256 := fun x hx => by
      rcases List.mem_append.1 hx with hx | hx
      · exact hp.byte x hx
      · exact i2 x hx
    have hne : p.2 ++ (ps.flatMap Prod.snd ++ 34 :: more) ≠ [] := fun e => by
      have := congrArg List.length e
      rw [List.length_append] at this
      have := hp.pos
      simp at *
    rw [e]
    refine ⟨?_, hb⟩
    rw [ub_step _ hb hne, if_neg (hp.start _), hp.reads, if_neg (by simp)]
    simp only [List.drop_left]
    rw [i1]
    simp [encs_cons]
    omega
/-- .. cut off anywhere. -/
theorem ub_cut : ∀ (ps : List (Nat × List Nat)) (k : Nat), (∀ p ∈ ps, Spell p.1 p.2) → k ≤ (ps.flatMap Prod.snd).length → ub ((ps.flatMap Prod.snd).take k) = ([], 0, 3) ∧ (∀ x ∈ (ps.flatMap Prod.snd).take k, x < 256)
  | [], k, _, hk => by simp at hk; subst hk; simp [ub_nil]
  | p :: ps, k, h, hk => by
    have hp := h p (List.mem_cons_self ..)
    have hpos := hp.pos
    have e : (p :: ps).flatMap Prod.snd = p.2 ++ ps.flatMap Prod.snd := by simp
    rw [e] at hk ⊢
    by_cases h0 : k = 0
    · subst h0; simp [ub_nil]
    · by_cases h1 : k < p.2.length
      · rw [List.take_append_of_le_length (by omega)]
        have hb := take_byte hp.byte k
        have hne : p.2.take k ≠ [] := fun e => by have := congrArg List.length e; rw [List.length_take] at this; simp only [List.length_nil] at this; omega
        have hst : (p.2.take k).getD 0 0 ≠ 34 := by
          have := hp.start []
          rw [List.append_nil] at this
          rwa [show (p.2.take k).getD 0 0 = p.2.getD 0 0 by simp [List.getD_eq_getElem?_getD, show 0 < k by omega]]
        refine ⟨?_, hb⟩
        rw [ub_step _ hb hne, if_neg hst, hp.cut k (by omega) h1]
        simp
      · rw [List.take_append, List.take_of_length_le (by omega)]
        rw [List.length_append] at hk
        obtain ⟨i1, i2⟩ := ub_cut ps (k - p.2.length) (fun q hq => h q (List.mem_cons_of_mem _ hq)) (by omega)
        have hb : ∀ x ∈ p.2 ++ (ps.flatMap Prod.snd).take (k - p.2.length), x < 256 := fun x hx => by
          rcases List.mem_append.1 hx with hx | hx
          · exact hp.byte x hx
          · exact i2 x hx
        have hne : p.2 ++ (ps.flatMap Prod.snd).take (k - p.2.length) ≠ [] := fun e => by have := congrArg List.length e; rw [List.length_append] at this; simp only [List.length_nil] at this; omega
        refine ⟨?_, hb⟩
        rw [ub_step _ hb hne, if_neg (hp.start _), hp.reads, if_neg (by simp)]
        simp only [List.drop_left]
        rw [i1]
        simp
theorem unq_spelt (ps : List (Nat × List Nat)) (more : List Nat) (hm : ∀ x ∈ more, x < 256) (h : ∀ p ∈ ps, Spell p.1 p.2) :
    unq (34 :: (ps.flatMap Prod.snd ++ 34 :: more)) = (encs (ps.map Prod.fst), (ps.flatMap Prod.snd).length + 2, 0) := by
  unfold unq
  rw [if_neg (by simp), if_neg (by simp)]
  simp only [List.drop_succ_cons, List.drop_zero]
  rw [(ub_spelt ps more hm h).1]
  simp
theorem unq_cut (ps : List (Nat × List Nat)) (k : Nat) (h : ∀ p ∈ ps, Spell p.1 p.2) (hk : k < (ps.flatMap Prod.snd).length + 2) :
    unq ((34 :: (ps.flatMap Prod.snd ++ [34])).take k) = ([], 0, 3) := by
  rcases Nat.eq_zero_or_pos k with h0 | h0
  · subst h0; rfl
  · obtain ⟨j, rfl⟩ : ∃ j, k = j + 1 := ⟨k - 1, by omega⟩
    rw [List.take_succ_cons, List.take_append_of_le_length (by omega)]
    unfold unq
    rw [if_neg (by simp), if_neg (by simp)]
    simp only [List.drop_succ_cons, List.drop_zero]
    rw [(ub_cut ps j h (by omega)).1]
    simp
theorem tidy_parts (rs : List Nat) : escs (encs rs) = (rs.map fun r => (r, escR r)).flatMap Prod.snd := by
  induction rs with
  | nil => rfl
  | cons r rs ih => rw [encs_cons, escs_append, escs_enc, ih]; simp
/-- A text is read of its tidy literal as it was. -/
theorem unq_tidy (rs more : List Nat) (h : ∀ r ∈ rs, isr r) (hm : ∀ x ∈ more, x < 256) : unq (tidy (encs rs) ++ more) = (encs rs, (tidy (encs rs)).length, 0) := by
  have := unq_spelt (rs.map fun r => (r, escR r)) more hm fun p hp => by
    obtain ⟨r, hr, rfl⟩ := List.mem_map.1 hp
    exact spell_tidy r (h r hr)
  rw [← tidy_parts] at this
  unfold tidy
  rw [show (34 :: (escs (encs rs) ++ [34])) ++ more = 34 :: (escs (encs rs) ++ 34 :: more) by simp, this]
  simp [Function.comp_def]
end Go.Proofs.YtanjdjiigfdnmaaGreatDoor.Utf
