/- Cells, plainly: bits that are taken off; no program. -/
import Derived.Test.YtanjdjiigfdnmaaGreatDoorClP
namespace Go.Proofs.YtanjdjiigfdnmaaGreatDoor.Cl
open Go.Lib
set_option linter.unusedVariables false

/-- A run of bytes taken off; o: what it has said, i: how many bytes that were. -/
def run : List Nat → List Nat → Nat → List Nat × Nat × Nat
  | [], _, _ => ([], 0, 3)
  | [b], o, i => if b = 0 then ([], 0, 3) else if o.length = 1024 then ([], 0, 4) else ([], 0, 3)
  | b :: c :: t, o, i =>
    if b = 0 then (if c = 0 then (o, i + 2, 0) else if c ≠ 255 then ([], 0, 4) else if o.length = 1024 then ([], 0, 4) else run t (o ++ [0]) (i + 2))
    else if o.length = 1024 then ([], 0, 4) else run (c :: t) (o ++ [b]) (i + 1)
theorem run_nil (o : List Nat) (i : Nat) : run [] o i = ([], 0, 3) := by rw [run]
theorem run_zero (t o : List Nat) (i : Nat) : run (0 :: t) o i = match t with | [] => ([], 0, 3) | c :: t => if c = 0 then (o, i + 2, 0) else if c ≠ 255 then ([], 0, 4) else if o.length = 1024 then ([], 0, 4) else run t (o ++ [0]) (i + 2) := by
  cases t with
  | nil => rw [run, if_pos rfl]
  | cons c t => rw [run, if_pos rfl]
theorem run_some (b : Nat) (t o : List Nat) (i : Nat) (hb : b ≠ 0) : run (b :: t) o i = if o.length = 1024 then ([], 0, 4) else run t (o ++ [b]) (i + 1) := by
  cases t with
  | nil => rw [run_nil]; simp [run, hb]
  | cons c t => rw [run, if_neg hb]
theorem run_esc : ∀ (s t o : List Nat) (i : Nat), o.length + s.length ≤ 1024 → run (esc0 s ++ 0 :: 0 :: t) o i = (o ++ s, i + ((esc0 s).length + 2), 0)
  | [], t, o, i, _ => by
    show run (0 :: 0 :: t) o i = _
    rw [run_zero]; simp [esc0]
  | b :: s, t, o, i, h => by
    rw [List.length_cons] at h
    have ih := fun b i => run_esc s t (o ++ [b]) i (by simp; omega)
    rw [esc0_cons]
    by_cases hb : b = 0
    · subst hb
      rw [if_pos rfl]
      show run (0 :: 255 :: (esc0 s ++ 0 :: 0 :: t)) o i = _
      rw [run_zero]
      simp only []
      rw [if_neg (by decide), if_neg (by decide), if_neg (by omega), ih]
      simp; omega
    · rw [if_neg hb]
      show run (b :: (esc0 s ++ 0 :: 0 :: t)) o i = _
      rw [run_some _ _ _ _ hb, if_neg (by omega), ih]
      simp; omega
theorem run_good : ∀ (n : Nat) (l o : List Nat) (i : Nat) (x : List Nat) (m : Nat), l.length ≤ n → o.length ≤ 1024 → run l o i = (x, m, 0) →
    ∃ s t, x = o ++ s ∧ l = esc0 s ++ 0 :: 0 :: t ∧ m = i + ((esc0 s).length + 2) ∧ x.length ≤ 1024
  | n, [], o, i, x, m, _, _, h => by rw [run_nil] at h; simp at h
  | 0, b :: l, o, i, x, m, hn, _, h => by simp at hn
  | n + 1, b :: l, o, i, x, m, hn, ho, h => by
    rw [List.length_cons] at hn
    by_cases hb : b = 0
    · subst hb
      rw [run_zero] at h
      match l, h with
      | [], h => simp at h
      | c :: t, h =>
        simp only [] at h
        by_cases h0 : c = 0
        · rw [if_pos h0] at h
          simp only [Prod.mk.injEq, and_true] at h
          exact ⟨[], t, by simp [h.1], by rw [h0]; rfl, by rw [← h.2]; rfl, by rw [← h.1]; exact ho⟩
        · rw [if_neg h0] at h
          by_cases h1 : c ≠ 255
          · rw [if_pos h1] at h; simp at h
          · rw [if_neg h1] at h
            by_cases h2 : o.length = 1024
            · rw [if_pos h2] at h; simp at h
            · rw [if_neg h2] at h
              obtain ⟨s, t', e1, e2, e3, e4⟩ := run_good n t (o ++ [0]) (i + 2) x m (by simp at hn; omega) (by simp; omega) h
              refine ⟨0 :: s, t', by simp [e1], ?_, ?_, e4⟩
              · rw [e2, esc0_cons, if_pos rfl]
                have : c = 255 := by omega
                simp [this]
              · rw [e3, esc0_cons, if_pos rfl]; simp; omega
    · rw [run_some _ _ _ _ hb] at h
      by_cases h2 : o.length = 1024
      · rw [if_pos h2] at h; simp at h
      · rw [if_neg h2] at h
        obtain ⟨s, t', e1, e2, e3, e4⟩ := run_good n l (o ++ [b]) (i + 1) x m (by omega) (by simp; omega) h
        refine ⟨b :: s, t', by simp [e1], ?_, ?_, e4⟩
        · rw [e2, esc0_cons, if_neg hb]; rfl
        · rw [e3, esc0_cons, if_neg hb]; simp; omega
theorem run_err : ∀ (n : Nat) (l o : List Nat) (i : Nat) (x : List Nat) (m e : Nat), l.length ≤ n → run l o i = (x, m, e) → e ≠ 0 → x = [] ∧ m = 0 ∧ (e = 3 ∨ e = 4)
  | n, [], o, i, x, m, e, _, h, _ => by rw [run_nil] at h; simp at h; simp [← h.1, ← h.2.1, ← h.2.2]
  | 0, b :: l, o, i, x, m, e, hn, h, _ => by simp at hn
  | n + 1, b :: l, o, i, x, m, e, hn, h, he => by
    rw [List.length_cons] at hn
    by_cases hb : b = 0
    · subst hb
      rw [run_zero] at h
      match l, h with
      | [], h => simp at h; simp [← h.1, ← h.2.1, ← h.2.2]
      | c :: t, h =>
        simp only [] at h
        by_cases h0 : c = 0
        · rw [if_pos h0] at h
          simp only [Prod.mk.injEq] at h
          exact absurd h.2.2.symm he
        · rw [if_neg h0] at h
          by_cases h1 : c ≠ 255
          · rw [if_pos h1] at h; simp at h; simp [← h.1, ← h.2.1, ← h.2.2]
          · rw [if_neg h1] at h
            by_cases h2 : o.length = 1024
            · rw [if_pos h2] at h; simp at h; simp [← h.1, ← h.2.1, ← h.2.2]
            · rw [if_neg h2] at h
              exact run_err n t _ _ x m e (by simp at hn; omega) h he
    · rw [run_some _ _ _ _ hb] at h
      by_cases h2 : o.length = 1024
      · rw [if_pos h2] at h; simp at h; simp [← h.1, ← h.2.1, ← h.2.2]
      · rw [if_neg h2] at h
        exact run_err n l _ _ x m e (by omega) h he

/-- A cell that is not nothing taken off, of a kind that may be. -/
def bare (k : Int) (l : List Nat) : C × Nat × Nat :=
  if k = 1 then (if l = [] then (empty, 0, 3) else if l.getD 0 0 ≤ 1 then (⟨false, (l.getD 0 0 : Nat), ⟨#[]⟩⟩, 1, 0) else (empty, 0, 4))
  else if k = 2 ∨ k = 3 then (if l.length < 8 then (empty, 0, 3) else
    (let c : C := ⟨false, (num8 (l.take 8) : Int) - 9223372036854775808, ⟨#[]⟩⟩; if isK k c = true then (c, 8, 0) else (empty, 0, 4)))
  else (let r := run l [] 0; if r.2.2 ≠ 0 then (empty, 0, r.2.2) else (let c : C := ⟨false, 0, str r.1⟩; if isK k c = true then (c, r.2.1, 0) else (empty, 0, 4)))
def more (u : Bool) (r : C × Nat × Nat) : C × Nat × Nat := if r.2.2 ≠ 0 then (empty, 0, r.2.2) else (r.1, (if u = true then 1 else 0) + r.2.1, 0)
def unb (u : Bool) (k : Int) (l : List Nat) : C × Nat × Nat :=
  if may k = false then (empty, 0, 2)
  else if u = true then (if l = [] then (empty, 0, 3) else if l.getD 0 0 = 0 then (nothing, 1, 0) else if l.getD 0 0 = 1 then more true (bare k (l.drop 1)) else (empty, 0, 4))
  else more false (bare k l)

theorem isK_u {k : Int} {c : C} (h : isK k c = true) : c.u = false := by
  unfold isK at h; cases hu : c.u
  · rfl
  · rw [hu] at h; simp at h
theorem bare_be (k : Int) (c : C) (h1 : k ≠ 1) (h2 : k = 2 ∨ k = 3) (hc : isK k c = true) (hi : I64 c.n) (hs : bl c.s = []) (t : List Nat) : bare k (body k c ++ t) = (c, (body k c).length, 0) := by
  have hb : body k c = be (turn c.n) := by unfold body; rw [if_neg h1, if_pos h2]
  have e : (⟨false, (num8 ((be (turn c.n) ++ t).take 8) : Int) - 9223372036854775808, ⟨#[]⟩⟩ : C) = c := by
    rw [show (be (turn c.n) ++ t).take 8 = be (turn c.n) from rfl, num8_be _ (turn_lt hi)]
    exact C.ext' (isK_u hc).symm (by unfold turn; unfold I64 at hi; simp; omega) (by rw [hs]; rfl)
  rw [hb]
  unfold bare
  rw [if_neg h1, if_pos h2, if_neg (by simp [be_len])]
  simp only [e, hc, if_true]
  rfl
theorem bare_esc (k : Int) (c : C) (h1 : k ≠ 1) (h2 : ¬ (k = 2 ∨ k = 3)) (hc : isK k c = true) (hn : c.n = 0) (hs : c.s.size ≤ 1024) (t : List Nat) : bare k (body k c ++ t) = (c, (body k c).length, 0) := by
  have hb : body k c = esc0 (bl c.s) ++ [0, 0] := by unfold body; rw [if_neg h1, if_neg h2]
  have e : (⟨false, 0, str (bl c.s)⟩ : C) = c := C.ext' (isK_u hc).symm hn.symm (by rw [str_bl])
  have hr : run (body k c ++ t) [] 0 = (bl c.s, (body k c).length, 0) := by
    rw [hb, show esc0 (bl c.s) ++ [0, 0] ++ t = esc0 (bl c.s) ++ 0 :: 0 :: t by simp, run_esc _ _ _ _ (by rw [bl_length]; simp; exact hs)]
    simp
  unfold bare
  rw [if_neg h1, if_neg h2]
  simp only [hr, ne_eq, not_true_eq_false, if_false, e, hc, if_true]
theorem bare_body (k : Int) (c : C) (hk : may k = true) (hc : isK k c = true) (hi : I64 c.n) (t : List Nat) : bare k (body k c ++ t) = (c, (body k c).length, 0) := by
  have hu := isK_u hc
  obtain ⟨k0, k5⟩ := may_le hk
  rcases (show k = 1 ∨ k = 2 ∨ k = 3 ∨ k = 4 ∨ k = 5 by omega) with rfl | rfl | rfl | rfl | rfl
  · have h := hc
    unfold isK at h; simp [hu] at h
    unfold bare body
    rw [if_pos rfl, if_pos rfl, if_neg (by simp)]
    rw [if_pos (by simp; omega)]
    simp only [Prod.mk.injEq, List.length_singleton, and_true]
    exact C.ext' hu.symm (by simp; omega) (by rw [h.1]; rfl)
  · have h := hc
    unfold isK at h; simp [hu] at h
    exact bare_be 2 c (by decide) (.inl rfl) hc hi h.1 t
  · have h := hc
    unfold isK at h; simp [hu] at h
    exact bare_be 3 c (by decide) (.inr rfl) hc hi h t
  · have h := hc
    unfold isK at h; simp [hu] at h
    exact bare_esc 4 c (by decide) (by decide) hc h.1.1 h.1.2 t
  · have h := hc
    unfold isK at h; simp [hu] at h
    exact bare_esc 5 c (by decide) (by decide) hc h.1 h.2 t
/-- What is written is taken off as it was, whatever stands behind. -/
theorem unb_bts (u : Bool) (k : Int) (c : C) (hk : may k = true) (hc : of u k c = true) (hi : I64 c.n) (t : List Nat) : unb u k (bts u k c ++ t) = (c, (bts u k c).length, 0) := by
  unfold unb
  rw [if_neg (by rw [hk]; simp)]
  rcases of_parts hc with ⟨c1, c2, c3, c4⟩ | ⟨c1, c2⟩
  · have hb : bts u k c = [0] := by unfold bts; rw [if_pos c1]
    rw [hb, if_pos c2, if_neg (by simp), if_pos (by rfl)]
    simp only [Prod.mk.injEq, List.length_singleton, and_true]
    exact C.ext' c1.symm c3.symm (by rw [c4]; rfl)
  · have hb : bts u k c = (if u = true then [1] else []) ++ body k c := by unfold bts; rw [if_neg (by rw [c1]; simp)]
    rw [hb]
    cases u with
    | true =>
      rw [if_pos rfl, if_pos rfl, if_neg (by simp), if_neg (by simp), if_pos (by simp)]
      show more true (bare k (body k c ++ t)) = _
      rw [bare_body k c hk c2 hi t]
      simp [more]; omega
    | false =>
      simp only [Bool.false_eq_true, if_false, List.nil_append]
      rw [bare_body k c hk c2 hi t]
      simp [more]
theorem bare_good (k : Int) (l : List Nat) (hl : ∀ x ∈ l, x < 256) (hk : may k = true) (c : C) (n : Nat) (h : bare k l = (c, n, 0)) : isK k c = true ∧ I64 c.n ∧ n ≤ l.length ∧ l.take n = body k c := by
  obtain ⟨k0, k5⟩ := may_le hk
  by_cases h1 : k = 1
  · subst h1
    unfold bare at h
    rw [if_pos rfl] at h
    by_cases e : l = []
    · rw [if_pos e] at h; simp at h
    · rw [if_neg e] at h
      by_cases e2 : l.getD 0 0 ≤ 1
      · rw [if_pos e2] at h
        simp only [Prod.mk.injEq, and_true] at h
        obtain ⟨rfl, rfl⟩ := h
        match l, e with
        | a :: t, _ =>
          have e2 : a ≤ 1 := e2
          refine ⟨?_, by unfold I64; simp; omega, by simp, ?_⟩
          · unfold isK; simp [bl]; omega
          · simp [body]
      · rw [if_neg e2] at h; simp at h
  · by_cases h2 : k = 2 ∨ k = 3
    · unfold bare at h
      rw [if_neg h1, if_pos h2] at h
      by_cases e : l.length < 8
      · rw [if_pos e] at h; simp at h
      · rw [if_neg e] at h
        simp only [] at h
        split at h
        · next hq =>
          simp only [Prod.mk.injEq, and_true] at h
          obtain ⟨rfl, rfl⟩ := h
          obtain ⟨b1, b2⟩ := be_num8 (l.take 8) (fun x hx => hl x (List.mem_of_mem_take hx)) (by simp; omega)
          refine ⟨hq, by unfold I64; simp; omega, by omega, ?_⟩
          unfold body
          rw [if_neg h1, if_pos h2]
          unfold turn
          simp only [Int.sub_add_cancel, Int.toNat_natCast]
          exact b1.symm
        · simp at h
    · unfold bare at h
      rw [if_neg h1, if_neg h2] at h
      simp only [] at h
      cases hr : run l [] 0 with
      | mk x q =>
        obtain ⟨m, e⟩ := q
        rw [hr] at h
        simp only [] at h
        by_cases he : e ≠ 0
        · rw [if_pos he] at h
          simp only [Prod.mk.injEq] at h
          exact absurd h.2.2 he
        · rw [if_neg he] at h
          have he : e = 0 := by omega
          subst he
          split at h
          · next hq =>
            simp only [Prod.mk.injEq, and_true] at h
            obtain ⟨rfl, rfl⟩ := h
            obtain ⟨s, t, e1, e2, e3, e4⟩ := run_good l.length l [] 0 x m (Nat.le_refl _) (by simp) hr
            have e1 : x = s := by simpa using e1
            subst e1
            have hx : ∀ y ∈ x, y < 256 := by
              intro y hy
              by_cases h0 : y = 0
              · omega
              · have : y ∈ esc0 x := by
                  simp only [esc0, List.mem_flatMap]
                  exact ⟨y, hy, by rw [if_neg h0]; simp⟩
                exact hl y (by rw [e2]; simp [this])
            refine ⟨hq, by unfold I64; simp, by rw [e3, e2]; simp, ?_⟩
            unfold body
            rw [if_neg h1, if_neg h2, e3, e2]
            show _ = esc0 (bl (str x)) ++ [0, 0]
            rw [bl_str x hx]
            simp
            rw [show esc0 x ++ 0 :: 0 :: t = (esc0 x ++ [0, 0]) ++ t by simp, List.take_left' (by simp)]
          · simp at h
theorem bare_err (k : Int) (l : List Nat) (c : C) (n e : Nat) (h : bare k l = (c, n, e)) (he : e ≠ 0) : c = empty ∧ n = 0 ∧ (e = 3 ∨ e = 4) := by
  unfold bare at h
  simp only [] at h
  repeat' split at h
  all_goals simp only [Prod.mk.injEq] at h
  all_goals first
    | exact absurd h.2.2.symm he
    | (exact ⟨h.1.symm, h.2.1.symm, by omega⟩)
    | skip
  next hq =>
    cases hr : run l [] 0 with
    | mk x q =>
      obtain ⟨m, e'⟩ := q
      rw [hr] at hq h
      have := run_err l.length l [] 0 x m e' (Nat.le_refl _) hr hq
      exact ⟨h.1.symm, h.2.1.symm, by rw [← h.2.2]; exact this.2.2⟩
/-- What is taken off has just those bits. -/
theorem unb_good (u : Bool) (k : Int) (l : List Nat) (hl : ∀ x ∈ l, x < 256) (c : C) (n : Nat) (h : unb u k l = (c, n, 0)) : may k = true ∧ of u k c = true ∧ I64 c.n ∧ n ≤ l.length ∧ l.take n = bts u k c := by
  unfold unb at h
  by_cases hk : may k = false
  · rw [if_pos hk] at h; simp at h
  · have hk' : may k = true := by simpa using hk
    rw [if_neg hk] at h
    cases u with
    | true =>
      rw [if_pos rfl] at h
      match l, h with
      | [], h => simp at h
      | b :: l, h =>
        rw [if_neg (by simp)] at h
        simp only [List.getD_cons_zero, List.drop_succ_cons, List.drop_zero] at h
        by_cases h0 : b = 0
        · rw [if_pos h0] at h
          simp only [Prod.mk.injEq, and_true] at h
          obtain ⟨rfl, rfl⟩ := h
          exact ⟨hk', by simp [of, none?, nothing, bl], by simp [nothing, I64], by simp, by simp [bts, nothing, h0]⟩
        · rw [if_neg h0] at h
          by_cases h1 : b = 1
          · rw [if_pos h1] at h
            cases hb : bare k l with
            | mk c' q =>
              obtain ⟨n', e⟩ := q
              rw [hb] at h
              unfold more at h
              simp only [] at h
              by_cases he : e ≠ 0
              · rw [if_pos he] at h; simp only [Prod.mk.injEq] at h; exact absurd h.2.2 he
              · rw [if_neg he] at h
                have he : e = 0 := by omega
                subst he
                simp only [Prod.mk.injEq, and_true, if_true] at h
                obtain ⟨rfl, rfl⟩ := h
                obtain ⟨g1, g2, g3, g4⟩ := bare_good k l (fun x hx => hl x (List.mem_cons_of_mem _ hx)) hk' c' n' hb
                refine ⟨hk', by unfold of; rw [g1]; simp, g2, by simp; omega, ?_⟩
                rw [Nat.add_comm, List.take_succ_cons, g4, h1]
                unfold bts
                rw [if_neg (by rw [isK_u g1]; simp), if_pos rfl]; rfl
          · rw [if_neg h1] at h; simp at h
    | false =>
      simp only [Bool.false_eq_true, if_false] at h
      cases hb : bare k l with
      | mk c' q =>
        obtain ⟨n', e⟩ := q
        rw [hb] at h
        unfold more at h
        simp only [] at h
        by_cases he : e ≠ 0
        · rw [if_pos he] at h; simp only [Prod.mk.injEq] at h; exact absurd h.2.2 he
        · rw [if_neg he] at h
          have he : e = 0 := by omega
          subst he
          simp only [Prod.mk.injEq, and_true, Bool.false_eq_true, if_false, Nat.zero_add] at h
          obtain ⟨rfl, rfl⟩ := h
          obtain ⟨g1, g2, g3, g4⟩ := bare_good k l hl hk' c' n' hb
          refine ⟨hk', by unfold of; rw [g1]; simp, g2, g3, ?_⟩
          rw [g4]
          unfold bts
          rw [if_neg (by rw [isK_u g1]; simp)]; simp
theorem more_err (u : Bool) (r : C × Nat × Nat) (c : C) (n e : Nat) (h : more u r = (c, n, e)) (he : e ≠ 0) : c = empty ∧ n = 0 ∧ r.2.2 = e := by
  unfold more at h
  split at h <;> simp only [Prod.mk.injEq] at h
  · exact ⟨h.1.symm, h.2.1.symm, h.2.2⟩
  · exact absurd h.2.2.symm he
theorem unb_err (u : Bool) (k : Int) (l : List Nat) (c : C) (n e : Nat) (h : unb u k l = (c, n, e)) (he : e ≠ 0) : c = empty ∧ n = 0 := by
  unfold unb at h
  repeat' split at h
  all_goals first
    | (simp only [Prod.mk.injEq] at h; exact ⟨h.1.symm, h.2.1.symm⟩)
    | (simp only [Prod.mk.injEq] at h; exact absurd h.2.2.symm he)
    | exact ⟨(more_err _ _ _ _ _ h he).1, (more_err _ _ _ _ _ h he).2.1⟩
end Go.Proofs.YtanjdjiigfdnmaaGreatDoor.Cl
