/- A text that is read is the text of what it says: plainly, along the reading. -/
import Derived.Test.YtgmdjofnkbaflaaDoorZs
namespace Go.Proofs.YtgmdjofnkbaflaaDoor
namespace Utf
set_option linter.unusedVariables false
/-! ### literals: what stands behind them is not looked at -/
theorem hx_any (second : Bool) (a b c d : Nat) (t u : List Nat) : hx second (a :: b :: c :: d :: t) = hx second (a :: b :: c :: d :: u) := by
  simp only [hx, hxF]
theorem esc_u (a b c d : Nat) (t : List Nat) : esc (92 :: 117 :: a :: b :: c :: d :: t) =
    if (hx false (a :: b :: c :: d :: t)).2 ≠ 0 then (0, 0, (hx false (a :: b :: c :: d :: t)).2)
    else if (hx false (a :: b :: c :: d :: t)).1 < 55296 ∨ 56319 < (hx false (a :: b :: c :: d :: t)).1 then ((hx false (a :: b :: c :: d :: t)).1, 6, 0)
    else if pre t ≠ 0 then (0, 0, pre t)
    else if (hx true (t.drop 2)).2 ≠ 0 then (0, 0, (hx true (t.drop 2)).2)
    else (65536 + 1024 * ((hx false (a :: b :: c :: d :: t)).1 - 55296) + ((hx true (t.drop 2)).1 - 56320), 12, 0) := by
  unfold esc
  rw [if_neg (by simp), if_pos (by rfl)]
  simp only [List.drop_succ_cons, List.drop_zero]
theorem six_of : ∀ (t : List Nat), 6 ≤ t.length → ∃ a b c d e f u, t = a :: b :: c :: d :: e :: f :: u
  | a :: b :: c :: d :: e :: f :: u, _ => ⟨a, b, c, d, e, f, u, rfl⟩
theorem part_take {l : List Nat} (hl : ∀ x ∈ l, x < 256) (h0 : l.getD 0 0 ≠ 34) {r m : Nat} (h : part l = (r, m, 0)) (more : List Nat) : part (l.take m ++ more) = (r, m, 0) := by
  have hg := part_good l hl h0 (by rw [h])
  rw [h] at hg
  obtain ⟨_, g1, g2, _⟩ := hg
  simp only at g1 g2
  unfold part at h
  by_cases h1 : l.getD 0 0 = 92
  · rw [if_pos h1] at h
    have h' := h
    unfold esc at h
    by_cases c1 : l.length < 2
    · rw [if_pos c1] at h; simp at h
    · rw [if_neg c1] at h
      by_cases c2 : l.getD 1 0 = 117
      · rw [if_pos c2] at h
        by_cases c3 : (hx false (l.drop 2)).2 ≠ 0
        · rw [if_pos c3] at h; simp only [Prod.mk.injEq] at h; exact absurd h.2.2 c3
        · rw [if_neg c3] at h
          have k1 := (hx_len false _ (by omega : (hx false (l.drop 2)).2 = 0)).1
          rw [List.length_drop] at k1
          obtain ⟨a0, a1, a2, a3, a4, a5, t, ht⟩ := six_of l (by omega)
          subst ht
          · skip
            have h1 : a0 = 92 := h1
            have c2 : a1 = 117 := c2
            subst h1 c2
            have c3 : ¬ (hx false (a2 :: a3 :: a4 :: a5 :: t)).2 ≠ 0 := c3
            rw [esc_u, if_neg c3] at h'
            by_cases c4 : (hx false (a2 :: a3 :: a4 :: a5 :: t)).1 < 55296 ∨ 56319 < (hx false (a2 :: a3 :: a4 :: a5 :: t)).1
            · rw [if_pos c4] at h'
              have hr : (hx false (a2 :: a3 :: a4 :: a5 :: t)).1 = r := congrArg Prod.fst h'
              have hm : 6 = m := congrArg (fun z => z.2.1) h'
              subst hm
              show part (92 :: 117 :: a2 :: a3 :: a4 :: a5 :: more) = _
              unfold part
              rw [if_pos (by rfl), esc_u, hx_any false a2 a3 a4 a5 more t, if_neg c3, if_pos c4, hr]
            · rw [if_neg c4] at h'
              by_cases c5 : pre t ≠ 0
              · rw [if_pos c5] at h'; simp only [Prod.mk.injEq] at h'; exact absurd h'.2.2 c5
              · rw [if_neg c5] at h'
                by_cases c6 : (hx true (t.drop 2)).2 ≠ 0
                · rw [if_pos c6] at h'; simp only [Prod.mk.injEq] at h'; exact absurd h'.2.2 c6
                · rw [if_neg c6] at h'
                  have k3 := (hx_len true _ (by omega : (hx true (t.drop 2)).2 = 0)).1
                  rw [List.length_drop] at k3
                  obtain ⟨b0, b1, b2, b3, b4, b5, u, ht⟩ := six_of t (by omega)
                  subst ht
                  · skip
                    obtain ⟨hr, hm⟩ := Prod.mk.inj h'
                    have hm : 12 = m := (Prod.mk.inj hm).1
                    subst hm
                    show part (92 :: 117 :: a2 :: a3 :: a4 :: a5 :: b0 :: b1 :: b2 :: b3 :: b4 :: b5 :: more) = _
                    have e5 : pre (b0 :: b1 :: b2 :: b3 :: b4 :: b5 :: more) = pre (b0 :: b1 :: b2 :: b3 :: b4 :: b5 :: u) := by simp [pre]
                    have e6 : hx true (List.drop 2 (b0 :: b1 :: b2 :: b3 :: b4 :: b5 :: more)) = hx true (List.drop 2 (b0 :: b1 :: b2 :: b3 :: b4 :: b5 :: u)) := hx_any true b2 b3 b4 b5 more u
                    unfold part
                    rw [if_pos (by rfl), esc_u, hx_any false a2 a3 a4 a5 _ (b0 :: b1 :: b2 :: b3 :: b4 :: b5 :: u), e5, e6, if_neg c3, if_neg c4, if_neg c5, if_neg c6, hr]
      · rw [if_neg c2] at h
        by_cases c3 : said (l.getD 1 0) = 0
        · rw [if_pos c3] at h; simp at h
        · rw [if_neg c3] at h
          simp only [Prod.mk.injEq, and_true] at h
          obtain ⟨hr, rfl⟩ := h
          match l, (by omega : 2 ≤ l.length) with
          | a0 :: a1 :: t, _ =>
            have h1 : a0 = 92 := h1
            subst h1
            show part (92 :: a1 :: more) = _
            unfold part
            rw [if_pos (by rfl)]
            unfold esc
            have c2' : ¬ (92 :: a1 :: more).getD 1 0 = 117 := c2
            have c3' : ¬ said ((92 :: a1 :: more).getD 1 0) = 0 := c3
            have hr' : said ((92 :: a1 :: more).getD 1 0) = r := hr
            rw [if_neg (by simp), if_neg c2', if_neg c3', hr']
  · rw [if_neg h1] at h
    by_cases c1 : nw l ≠ 0
    · rw [if_pos c1] at h
      obtain ⟨i1, i2, i3, i4⟩ := nx_some l hl c1
      by_cases c2 : nr l < 32
      · rw [if_pos c2] at h; simp at h
      · rw [if_neg c2] at h
        simp only [Prod.mk.injEq, and_true] at h
        obtain ⟨rfl, rfl⟩ := h
        have et : l.take (nw l) = enc (nr l) := by
          exact (congrArg (List.take (nw l)) i2).trans (List.take_left' i3)
        have eh : (l.take (nw l) ++ more).getD 0 0 = l.getD 0 0 := by
          cases l with
          | nil => exact absurd (show nw ([] : List Nat) = 0 by decide) c1
          | cons a t =>
            obtain ⟨j, hj⟩ : ∃ j, nw (a :: t) = j + 1 := ⟨nw (a :: t) - 1, by omega⟩
            rw [hj]; rfl
        unfold part
        rw [eh, if_neg h1, et]
        obtain ⟨n1, n2⟩ : nw (enc (nr l) ++ more) = (enc (nr l)).length ∧ nr (enc (nr l) ++ more) = nr l := ⟨nw_enc _ _ i1, nr_enc _ _ i1⟩
        rw [n1, n2, if_pos (by rw [i3]; exact c1), if_neg c2, i3]
    · rw [if_neg c1] at h
      by_cases c2 : full l = true
      · rw [if_pos c2] at h; simp at h
      · rw [if_neg c2] at h; simp at h
theorem ub_take : ∀ (k : Nat) (l t : List Nat) (n : Nat), l.length ≤ k → (∀ x ∈ l, x < 256) → ub l = (t, n, 0) → ∀ more, (∀ x ∈ more, x < 256) → ub (l.take n ++ more) = (t, n, 0)
  | 0, l, t, n, hk, hl, h, more, hm => by
    obtain rfl : l = [] := List.eq_nil_of_length_eq_zero (by omega)
    rw [ub_nil] at h; simp at h
  | k + 1, l, t, n, hk, hl, h, more, hm => by
    by_cases h0 : l = []
    · subst h0; rw [ub_nil] at h; simp at h
    · rw [ub_step l hl h0] at h
      have hp : 0 < l.length := by cases l with | nil => exact absurd rfl h0 | cons => simp
      by_cases h1 : l.getD 0 0 = 34
      · rw [if_pos h1] at h
        simp only [Prod.mk.injEq, and_true] at h
        obtain ⟨rfl, rfl⟩ := h
        have e : l.take 1 = [34] := by
          cases l with
          | nil => exact absurd rfl h0
          | cons a u => have h1 : a = 34 := h1; subst h1; rfl
        rw [e]
        have hb : ∀ x ∈ [34] ++ more, x < 256 := fun x hx => by
          rcases List.mem_append.1 hx with hx | hx
          · simp at hx; omega
          · exact hm x hx
        rw [ub_step _ hb (by simp), if_pos (by rfl)]
      · rw [if_neg h1] at h
        obtain ⟨r, m, e, hpt⟩ : ∃ r m e, part l = (r, m, e) := ⟨_, _, _, rfl⟩
        rw [hpt] at h
        by_cases h2 : e ≠ 0
        · rw [if_pos h2] at h; simp only [Prod.mk.injEq] at h; exact absurd h.2.2 h2
        · rw [if_neg h2] at h
          have h2 : e = 0 := by omega
          subst h2
          have hg := part_good l hl h1 (by rw [hpt])
          rw [hpt] at hg
          obtain ⟨_, g1, g2, _⟩ := hg
          simp only at g1 g2 h
          obtain ⟨t', n', e', hu⟩ : ∃ t' n' e', ub (l.drop m) = (t', n', e') := ⟨_, _, _, rfl⟩
          rw [hu] at h
          simp only at h
          by_cases h3 : e' ≠ 0
          · rw [if_pos h3] at h; simp only [Prod.mk.injEq] at h; exact absurd h.2.2 h3
          · rw [if_neg h3] at h
            have h3 : e' = 0 := by omega
            subst h3
            simp only [Prod.mk.injEq, and_true] at h
            obtain ⟨rfl, rfl⟩ := h
            have hd := drop_byte hl m
            have ih := ub_take k (l.drop m) t' n' (by rw [List.length_drop]; omega) hd hu more hm
            have et : l.take (m + n') ++ more = l.take m ++ ((l.drop m).take n' ++ more) := by rw [List.take_add, List.append_assoc]
            rw [et]
            have hb2 : ∀ x ∈ (l.drop m).take n' ++ more, x < 256 := fun x hx => by
              rcases List.mem_append.1 hx with hx | hx
              · exact hd x (List.mem_of_mem_take hx)
              · exact hm x hx
            have hb : ∀ x ∈ l.take m ++ ((l.drop m).take n' ++ more), x < 256 := fun x hx => by
              rcases List.mem_append.1 hx with hx | hx
              · exact hl x (List.mem_of_mem_take hx)
              · exact hb2 x hx
            have hlen : (l.take m).length = m := by rw [List.length_take]; omega
            have hne : l.take m ++ ((l.drop m).take n' ++ more) ≠ [] := fun e => by
              have := congrArg List.length e
              rw [List.length_append, hlen] at this
              simp only [List.length_nil] at this
              omega
            have eh : (l.take m ++ ((l.drop m).take n' ++ more)).getD 0 0 = l.getD 0 0 := by
              cases l with
              | nil => exact absurd rfl h0
              | cons a u =>
                obtain ⟨j, rfl⟩ : ∃ j, m = j + 1 := ⟨m - 1, by omega⟩
                rfl
            rw [ub_step _ hb hne, eh, if_neg h1, part_take hl h1 hpt, if_neg (by simp)]
            simp only
            rw [List.drop_left' hlen, ih]
            simp
end Utf
namespace Jr
open Go.Lib
set_option linter.unusedVariables false
/-- A literal that is read says it, whatever stands behind. -/
theorem lit_take {l t : List Nat} {n : Nat} (hl : Byte l) (h : Utf.unq l = (t, n, 0)) : Lit (l.take n) t ∧ n ≤ l.length := by
  unfold Utf.unq at h
  by_cases h0 : l = []
  · rw [if_pos h0] at h; simp at h
  · rw [if_neg h0] at h
    by_cases h1 : l.getD 0 0 ≠ 34
    · rw [if_pos h1] at h; simp at h
    · rw [if_neg h1] at h
      by_cases h2 : (Utf.ub (l.drop 1)).2.2 ≠ 0
      · rw [if_pos h2] at h
        simp only [Prod.mk.injEq] at h
        exact absurd h.2.2 h2
      · rw [if_neg h2] at h
        obtain ⟨t', n', e', hu⟩ : ∃ t' n' e', Utf.ub (l.drop 1) = (t', n', e') := ⟨_, _, _, rfl⟩
        rw [hu] at h h2
        simp only [Prod.mk.injEq, and_true] at h
        have h2 : e' = 0 := by simpa using h2
        subst h2
        obtain ⟨rfl, rfl⟩ := h
        obtain ⟨_, _, g3⟩ := Utf.ub_good (l.drop 1).length (l.drop 1) (Nat.le_refl _) (Utf.drop_byte hl 1) (by rw [hu])
        rw [hu, List.length_drop] at g3
        simp only at g3
        cases l with
        | nil => exact absurd rfl h0
        | cons a u =>
          have h1 : a = 34 := by simpa using h1
          subst h1
          have hu : Utf.ub u = (t', n', 0) := hu
          have hlb : Byte u := fun x hx => hl x (List.mem_cons_of_mem _ hx)
          simp only [List.length_cons] at g3
          have hle : n' ≤ u.length := by omega
          refine ⟨⟨fun more hm => ?_, rfl, fun x hx => hl x (List.mem_of_mem_take hx)⟩, by simp; omega⟩
          have hub := Utf.ub_take u.length u t' n' (Nat.le_refl _) hlb hu more hm
          have e1 : List.take (n' + 1) (34 :: u) ++ more = 34 :: (u.take n' ++ more) := by simp
          have e2 : (List.take (n' + 1) (34 :: u)).length = n' + 1 := by simp; omega
          rw [e1, e2]
          unfold Utf.unq
          rw [if_neg (by simp), if_neg (by simp)]
          simp only [List.drop_succ_cons, List.drop_zero]
          rw [hub]
          simp
/-- Digits as a number. -/
theorem num_dg {b : Bool} {D : List Nat} {v : Int} (h : Dg D) (hv : v = if b then -((val D : Nat) : Int) else ((val D : Nat) : Int)) (hr : -9223372036854775808 ≤ v ∧ v ≤ 9223372036854775807) : Num (sgn b ++ D) v := by
  refine ⟨?_, ?_, ?_, fun tail ht => ?_⟩
  · cases b with
    | true => exact .inl rfl
    | false => exact .inr (isd_hd h)
  · simp [h.1]
  · refine Byte.append ?_ (fun x hx => ?_)
    · unfold sgn; split
      · exact Byte.cons (by omega) Byte.nil
      · exact Byte.nil
    · have := h.2.1 x hx
      simp [isd] at this; omega
  · rw [List.append_assoc]
    obtain ⟨s1, s2⟩ := scan_stop (b := b) h ht
    have s3 := (nm (b := b) h ht.1).2.2.2
    rw [← hv] at s3
    exact ⟨by rw [s1, List.length_append], ⟨s2, by rw [s3]; exact hr⟩, s3⟩
theorem nIn_dg {s : List Nat} (h : nIn s ≠ 0) : Dg (s.take (nIn s)) ∧ (s.take (nIn s)).length = nIn s := by
  unfold nIn at h ⊢
  split
  · rename_i e
    cases s with
    | nil => simp at e
    | cons a t =>
      have e : a = 48 := e
      subst e
      exact ⟨⟨by simp, by simp [isd], fun _ => rfl⟩, by simp⟩
  · rename_i e
    rw [if_neg e] at h
    have hl := nd_le s
    have ht : ∀ s : List Nat, ∀ c ∈ s.take (nd s), isd c = true := by
      intro s
      induction s with
      | nil => intro c hc; simp at hc
      | cons a t ih =>
        intro c hc
        unfold nd at hc
        split at hc
        · rename_i h
          rw [List.take_succ_cons] at hc
          rcases List.mem_cons.1 hc with rfl | hc
          · exact h
          · exact ih c hc
        · simp at hc
    refine ⟨⟨?_, ht s, fun e2 => ?_⟩, by rw [List.length_take]; omega⟩
    · intro e2
      have := congrArg List.length e2
      rw [List.length_take] at this
      simp only [List.length_nil] at this
      omega
    · exfalso
      cases s with
      | nil => simp at e2
      | cons a t =>
        obtain ⟨j, hj⟩ : ∃ j, nd (a :: t) = j + 1 := ⟨nd (a :: t) - 1, by omega⟩
        rw [hj] at e2
        exact e e2
theorem num_take {s : List Nat} {m : Nat} (h : scan s = (m, true)) (hf : fits s) : Num (s.take m) (nVal s) ∧ m ≤ s.length := by
  have hp : nP2 s ≠ nP1 s := by
    intro e; unfold scan at h; rw [if_pos e] at h; simp at h
  have hs : m = nP5 s := by
    unfold scan at h
    rw [if_neg hp] at h
    split at h
    · simp at h
    · split at h
      · simp at h
      · simp only [Prod.mk.injEq] at h; exact h.1.symm
  rw [hf.1] at hs
  subst hs
  obtain ⟨_, hr⟩ := hf
  unfold nP2 nP1 nSg at hp ⊢
  by_cases e : hd s = 45
  · simp only [e, if_true] at hp ⊢
    cases s with
    | nil => simp at e
    | cons a t =>
      have e : a = 45 := e
      subst e
      have hn : nIn t ≠ 0 := by
        intro e; apply hp; show 1 + nIn t = 1; omega
      obtain ⟨k1, k2⟩ := nIn_dg hn
      have ev : nVal (45 :: t) = -((val (t.take (nIn t)) : Nat) : Int) := by unfold nVal; rw [if_pos (show hd (45 :: t) = 45 from rfl)]; rfl
      rw [ev] at hr ⊢
      have et : (45 :: t).take (1 + nIn ((45 :: t).drop 1)) = sgn true ++ t.take (nIn t) := by
        show (45 :: t).take (1 + nIn t) = _
        rw [Nat.add_comm, List.take_succ_cons]; rfl
      rw [et]
      refine ⟨num_dg k1 rfl hr, ?_⟩
      rw [List.length_take] at k2
      show 1 + nIn t ≤ _
      simp; omega
  · simp only [e, if_false, List.drop_zero, Nat.zero_add] at hp ⊢
    obtain ⟨k1, k2⟩ := nIn_dg hp
    have ev : nVal s = ((val (s.take (nIn s)) : Nat) : Int) := by unfold nVal; rw [if_neg e]
    rw [ev] at hr ⊢
    refine ⟨num_dg (b := false) k1 rfl hr, ?_⟩
    rw [List.length_take] at k2
    omega
end Jr
end Go.Proofs.YtgmdjofnkbaflaaDoor
