/- Plain: a list's dictionary and numbers, what is joined of them, and their bytes. No program is spoken of here. -/
import Derived.Test.YtenfjmdajlhfoaaPlain
namespace Go.Proofs.Ytenfjmdajlhfoaa.Dc
set_option linter.unusedVariables false
set_option linter.unusedSectionVars false
section
variable {α : Type} [DecidableEq α]

/-- Where a text stands; as many as there are, if nowhere. -/
def idx : List α → α → Nat
  | [], _ => 0
  | y :: d, s => if y = s then 0 else idx d s + 1
def put (d : List α) (s : α) : List α := if idx d s < d.length then d else d ++ [s]
/-- A dictionary and numbers, gone on with texts. -/
def spl : List α → List Nat → List α → List α × List Nat
  | d, N, [] => (d, N)
  | d, N, s :: l => spl (put d s) (N ++ [idx d s]) l

theorem idx_cons (y : α) (d : List α) (s : α) : idx (y :: d) s = if y = s then 0 else idx d s + 1 := rfl
theorem idx_le (d : List α) (s : α) : idx d s ≤ d.length := by
  induction d with
  | nil => simp [idx]
  | cons y d ih => unfold idx; split <;> simp <;> omega
theorem idx_mem (d : List α) (s : α) : idx d s < d.length ↔ s ∈ d := by
  induction d with
  | nil => simp [idx]
  | cons y d ih =>
    unfold idx
    by_cases h : y = s
    · simp [h]
    · rw [if_neg h]
      simp only [List.length_cons, List.mem_cons]
      constructor
      · intro h2; exact .inr (ih.1 (by omega))
      · intro h2
        rcases h2 with h2 | h2
        · exact absurd h2.symm h
        · have := ih.2 h2; omega
theorem idx_get (d : List α) (s : α) (h : idx d s < d.length) : d[idx d s]? = some s := by
  induction d with
  | nil => simp [idx] at h
  | cons y d ih =>
    unfold idx at h ⊢
    by_cases e : y = s
    · simp [e]
    · rw [if_neg e] at h ⊢
      simp only [List.getElem?_cons_succ]
      exact ih (by simp at h; omega)
theorem idx_app (d r : List α) (s : α) (h : idx d s < d.length) : idx (d ++ r) s = idx d s := by
  induction d with
  | nil => simp [idx] at h
  | cons y d ih =>
    simp only [List.cons_append]
    unfold idx at h ⊢
    by_cases e : y = s
    · rw [if_pos e, if_pos e]
    · rw [if_neg e] at h ⊢
      rw [if_neg e, ih (by simp at h; omega)]
theorem idx_new (d r : List α) (s : α) (h : ¬ idx d s < d.length) : idx (d ++ r) s = d.length + idx r s := by
  induction d with
  | nil => simp
  | cons y d ih =>
    simp only [List.cons_append]
    rw [idx_cons] at h ⊢
    by_cases e : y = s
    · rw [if_pos e] at h; simp at h
    · rw [if_neg e] at h
      rw [if_neg e, ih (by simp at h; omega)]
      simp; omega
theorem idx_of (d : List α) (s : α) (i : Nat) (h : d[i]? = some s) (hn : ∀ j, j < i → d[j]? ≠ some s) : idx d s = i := by
  induction d generalizing i with
  | nil => simp at h
  | cons y d ih =>
    unfold idx
    cases i with
    | zero => simp at h; rw [if_pos h]
    | succ i =>
      have : ¬ y = s := by have := hn 0 (by omega); simpa using this
      rw [if_neg this, ih i (by simpa using h) (fun j hj => by have := hn (j + 1) (by omega); simpa using this)]
theorem put_old (d : List α) (s : α) (h : idx d s < d.length) : put d s = d := by unfold put; rw [if_pos h]
theorem put_new (d : List α) (s : α) (h : ¬ idx d s < d.length) : put d s = d ++ [s] := by unfold put; rw [if_neg h]
theorem put_len (d : List α) (s : α) : d.length ≤ (put d s).length ∧ (put d s).length ≤ d.length + 1 := by unfold put; split <;> simp
theorem put_ext (d : List α) (s : α) : ∃ r, put d s = d ++ r := by
  unfold put; split
  · exact ⟨[], by simp⟩
  · exact ⟨[s], rfl⟩
theorem put_idx (d : List α) (s : α) : idx (put d s) s = idx d s ∧ idx d s < (put d s).length := by
  unfold put
  by_cases h : idx d s < d.length
  · rw [if_pos h]; exact ⟨rfl, h⟩
  · rw [if_neg h, idx_new d [s] s h]
    have := idx_le d s
    simp [idx]
    omega

theorem spl_cons (d : List α) (N : List Nat) (s : α) (l : List α) : spl d N (s :: l) = spl (put d s) (N ++ [idx d s]) l := rfl
theorem spl_snoc (d : List α) (N : List Nat) (l : List α) (s : α) : spl d N (l ++ [s]) = (put (spl d N l).1 s, (spl d N l).2 ++ [idx (spl d N l).1 s]) := by
  induction l generalizing d N with
  | nil => rfl
  | cons x l ih => rw [List.cons_append, spl_cons, spl_cons]; exact ih _ _
/-- What is behind the numbers that were there. -/
theorem spl_app (d : List α) (N : List Nat) (l : List α) : spl d N l = ((spl d [] l).1, N ++ (spl d [] l).2) := by
  induction l generalizing d N with
  | nil => simp [spl]
  | cons x l ih =>
    rw [spl_cons, spl_cons, ih (put d x) (N ++ [idx d x]), ih (put d x) ([] ++ [idx d x])]
    simp [List.append_assoc]
theorem spl_len (d : List α) (l : List α) : (spl d [] l).2.length = l.length ∧ d.length ≤ (spl d [] l).1.length ∧ (spl d [] l).1.length ≤ d.length + l.length := by
  induction l generalizing d with
  | nil => simp [spl]
  | cons x l ih =>
    rw [spl_cons, spl_app]
    have := ih (put d x)
    have := put_len d x
    simp
    omega
theorem spl_ext (d : List α) (l : List α) : ∃ r, (spl d [] l).1 = d ++ r := by
  induction l generalizing d with
  | nil => exact ⟨[], by simp [spl]⟩
  | cons x l ih =>
    rw [spl_cons, spl_app]
    obtain ⟨r1, h1⟩ := put_ext d x
    obtain ⟨r2, h2⟩ := ih (put d x)
    exact ⟨r1 ++ r2, by simp only [h2]; rw [h1, List.append_assoc]⟩
/-- A place's number is where its text stands in the whole dictionary. -/
theorem spl_get (d : List α) (l : List α) (i : Nat) (s : α) (h : l[i]? = some s) : (spl d [] l).2[i]? = some (idx (spl d [] l).1 s) ∧ (spl d [] l).1[idx (spl d [] l).1 s]? = some s := by
  induction l generalizing d i with
  | nil => simp at h
  | cons x l ih =>
    rw [spl_cons, spl_app]
    cases i with
    | zero =>
      simp at h; subst h
      obtain ⟨r, hr⟩ := spl_ext (put d x) l
      have hp := put_idx d x
      simp only [List.nil_append, List.cons_append, List.getElem?_cons_zero]
      rw [hr, idx_app _ _ _ (by rw [hp.1]; exact hp.2), hp.1]
      refine ⟨rfl, ?_⟩
      rw [List.getElem?_append_left hp.2, ← hp.1]
      exact idx_get _ _ (by rw [hp.1]; exact hp.2)
    | succ i =>
      simp only [List.nil_append, List.cons_append, List.getElem?_cons_succ] at h ⊢
      exact ih (put d x) i h
/-- All that stands in it are texts that were there ahead, or in the list. -/
theorem spl_mem (d : List α) (l : List α) (s : α) (h : s ∈ (spl d [] l).1) : s ∈ d ∨ s ∈ l := by
  induction l generalizing d with
  | nil => exact .inl h
  | cons x l ih =>
    rw [spl_cons, spl_app] at h
    rcases ih _ h with h | h
    · unfold put at h
      split at h
      · exact .inl h
      · rcases List.mem_append.1 h with h | h
        · exact .inl h
        · simp at h; subst h; exact .inr (List.mem_cons_self ..)
    · exact .inr (List.mem_cons_of_mem _ h)
/-- Each text stands once. -/
def Once (d : List α) : Prop := ∀ i s, d[i]? = some s → idx d s = i
theorem Once.nil : Once ([] : List α) := fun i s h => by simp at h
theorem Once.put {d : List α} (h : Once d) (s : α) : Once (put d s) := by
  unfold Dc.put
  split
  · exact h
  · rename_i hn
    intro i x hx
    rcases Nat.lt_or_ge i d.length with hi | hi
    · rw [List.getElem?_append_left hi] at hx
      have := h i x hx
      rw [idx_app _ _ _ (by omega)]; exact this
    · rw [List.getElem?_append_right hi] at hx
      have h0 : i - d.length = 0 := by
        rcases Nat.eq_zero_or_pos (i - d.length) with h0 | h0
        · exact h0
        · rw [List.getElem?_eq_none (by simp; omega)] at hx; cases hx
      rw [h0] at hx
      simp at hx
      subst hx
      rw [idx_new _ _ _ hn]
      simp [idx]; omega
theorem Once.spl {d : List α} (h : Once d) (l : List α) : Once (spl d [] l).1 := by
  induction l generalizing d with
  | nil => exact h
  | cons x l ih => rw [spl_cons, spl_app]; exact ih (h.put x)
theorem Once.app {d r : List α} (h : Once (d ++ r)) : Once d := fun i s hs => by
  have hi := (List.getElem?_eq_some_iff.1 hs).1
  have := h i s (by rw [List.getElem?_append_left hi]; exact hs)
  by_cases hn : idx d s < d.length
  · rw [idx_app _ _ _ hn] at this; exact this
  · rw [idx_new _ _ _ hn] at this; omega

/-- Texts of a dictionary, number by number: how many were used, the texts. -/
def jn (D : List α) : Nat → List α → List Int → Option (Nat × List α)
  | u, T, [] => some (u, T)
  | u, T, x :: ns => if h : 0 ≤ x ∧ x < (D.length : Int) ∧ x ≤ (u : Int) then jn D (max u (x.toNat + 1)) (T ++ [D[x.toNat]'(by omega)]) ns else none
theorem jn_yes (D : List α) (u : Nat) (T : List α) (x : Int) (ns : List Int) (n : Nat) (s : α) (hx : x = (n : Nat)) (hs : D[n]? = some s) (hu : n ≤ u) : jn D u T (x :: ns) = jn D (max u (n + 1)) (T ++ [s]) ns := by
  obtain ⟨h1, h2⟩ := List.getElem?_eq_some_iff.1 hs
  subst hx
  rw [jn, dif_pos (by omega)]
  simp [h2]
theorem jn_no (D : List α) (u : Nat) (T : List α) (x : Int) (ns : List Int) (h : ¬ (0 ≤ x ∧ x < (D.length : Int) ∧ x ≤ (u : Int))) : jn D u T (x :: ns) = none := by rw [jn, dif_neg h]
/-- What Join answers of a dictionary that has each text once. -/
def joi (D : List α) (ns : List Int) : Option (List α) :=
  match jn D 0 [] ns with
  | none => none
  | some (u, T) => if u < D.length then none else some T
theorem jn_used (D : List α) (u : Nat) (T : List α) (ns : List Int) (hu : u ≤ D.length) {u' : Nat} {T' : List α} (h : jn D u T ns = some (u', T')) : u ≤ u' ∧ u' ≤ D.length := by
  induction ns generalizing u T with
  | nil => simp [jn] at h; omega
  | cons x ns ih =>
    by_cases hx : 0 ≤ x ∧ x < (D.length : Int) ∧ x ≤ (u : Int)
    · rw [jn, dif_pos hx] at h
      have := ih _ _ (by omega) h
      omega
    · rw [jn_no _ _ _ _ _ hx] at h; cases h
/-- What is joined is split to just those texts and numbers. -/
theorem jn_spl (D : List α) (hD : Once D) (u : Nat) (T : List α) (ns : List Int) (hu : u ≤ D.length) {u' : Nat} {T' : List α} (h : jn D u T ns = some (u', T')) :
    ∃ l, T' = T ++ l ∧ (spl (D.take u) [] l).1 = D.take u' ∧ (spl (D.take u) [] l).2.map (fun (n : Nat) => (n : Int)) = ns := by
  induction ns generalizing u T with
  | nil => simp [jn] at h; obtain ⟨rfl, rfl⟩ := h; exact ⟨[], by simp, by simp [spl], by simp [spl]⟩
  | cons x ns ih =>
    by_cases hx : 0 ≤ x ∧ x < (D.length : Int) ∧ x ≤ (u : Int)
    · obtain ⟨n, rfl⟩ := Int.eq_ofNat_of_zero_le hx.1
      have hn : n < D.length := by omega
      have hs : D[n]? = some D[n] := List.getElem?_eq_getElem hn
      rw [jn_yes D u T _ ns n D[n] rfl hs (by omega)] at h
      obtain ⟨l, h1, h2, h3⟩ := ih _ _ (by omega) h
      refine ⟨D[n] :: l, by rw [h1, List.append_assoc]; rfl, ?_⟩
      have hi : idx D D[n] = n := hD n _ hs
      have hp : put (D.take u) D[n] = D.take (max u (n + 1)) ∧ idx (D.take u) D[n] = n := by
        have hol : Once (D.take u) := by
          have : D = D.take u ++ D.drop u := (List.take_append_drop u D).symm
          rw [this] at hD
          exact hD.app
        by_cases hlt : n < u
        · have e : (D.take u)[n]? = some D[n] := by rw [List.getElem?_take_of_lt hlt]; exact hs
          have e2 := hol n _ e
          refine ⟨?_, e2⟩
          rw [put_old _ _ (by rw [e2, List.length_take]; omega)]
          congr 1; omega
        · have hnu : n = u := by omega
          subst hnu
          have e3 : ¬ idx (D.take n) D[n] < (D.take n).length := by
            intro h5
            have h6 := idx_get _ _ h5
            have h7 : idx (D.take n) D[n] < n := by rw [List.length_take] at h5; omega
            rw [List.getElem?_take_of_lt h7] at h6
            have := hD _ _ h6
            omega
          have e4 := idx_le (D.take n) D[n]
          refine ⟨?_, by rw [List.length_take] at e3 e4; omega⟩
          rw [put_new _ _ e3, show max n (n + 1) = n + 1 by omega, List.take_add_one, hs]; rfl
      rw [spl_cons, spl_app, hp.1, hp.2]
      refine ⟨h2, ?_⟩
      simp only [List.nil_append, List.cons_append, List.map_cons, h3]
    · rw [jn_no _ _ _ _ _ hx] at h; cases h
/-- What is split is joined as it was. -/
theorem spl_jn {D : List α} (d : List α) (r : List α) (T : List α) (l : List α) (h : (spl d [] l).1 ++ r = D) :
    jn D d.length T ((spl d [] l).2.map (fun (n : Nat) => (n : Int))) = some ((spl d [] l).1.length, T ++ l) := by
  induction l generalizing d T with
  | nil => simp [spl, jn]
  | cons x l ih =>
    rw [spl_cons, spl_app] at h ⊢
    have hp := put_idx d x
    obtain ⟨q, hq⟩ := spl_ext (put d x) l
    simp only at h hq
    have hg : D[idx d x]? = some x := by
      rw [← h, hq, List.append_assoc, List.getElem?_append_left hp.2, ← hp.1]
      exact idx_get _ _ (by rw [hp.1]; exact hp.2)
    simp only [List.nil_append, List.cons_append, List.map_cons]
    rw [jn_yes D _ T _ _ (idx d x) x rfl hg (idx_le d x)]
    have e : max d.length (idx d x + 1) = (put d x).length := by
      unfold put
      by_cases hh : idx d x < d.length
      · rw [if_pos hh]; omega
      · rw [if_neg hh]; have := idx_le d x; simp; omega
    rw [e, ih (put d x) (T ++ [x]) h]
    simp
theorem joi_spl (l : List α) : joi (spl [] [] l).1 ((spl [] [] l).2.map (fun (n : Nat) => (n : Int))) = some l := by
  unfold joi
  have := spl_jn (D := (spl [] [] l).1) [] [] [] l (by simp)
  simp at this
  rw [this]
  simp
theorem spl_joi (D : List α) (hD : Once D) (ns : List Int) (T : List α) (h : joi D ns = some T) : (spl [] [] T).1 = D ∧ (spl [] [] T).2.map (fun (n : Nat) => (n : Int)) = ns := by
  unfold joi at h
  split at h
  · cases h
  · rename_i u T' h1
    split at h
    · cases h
    · rename_i hu
      injection h with h; subst h
      have h2 := jn_used D 0 [] ns (by omega) h1
      obtain ⟨l, e1, e2, e3⟩ := jn_spl D hD 0 [] ns (by omega) h1
      simp at e1; subst e1
      simp at e2 e3
      refine ⟨?_, e3⟩
      rw [e2, List.take_of_length_le (by omega)]
/-- Is it the dictionary and the numbers of a list? -/
theorem joi_iff (D : List α) (ns : List Int) (T : List α) : (Once D ∧ joi D ns = some T) ↔ ((spl [] [] T).1 = D ∧ (spl [] [] T).2.map (fun (n : Nat) => (n : Int)) = ns) := by
  constructor
  · rintro ⟨h1, h2⟩; exact spl_joi D h1 ns T h2
  · rintro ⟨rfl, rfl⟩; exact ⟨Once.nil.spl T, joi_spl T⟩
theorem jn_len (D : List α) (u : Nat) (T : List α) (ns : List Int) {u' : Nat} {T' : List α} (h : jn D u T ns = some (u', T')) : T'.length = T.length + ns.length := by
  induction ns generalizing u T with
  | nil => simp [jn] at h; simp [h.2]
  | cons x ns ih =>
    by_cases hx : 0 ≤ x ∧ x < (D.length : Int) ∧ x ≤ (u : Int)
    · rw [jn, dif_pos hx] at h
      rw [ih _ _ h]
      simp; omega
    · rw [jn_no _ _ _ _ _ hx] at h; cases h
end
end Go.Proofs.Ytenfjmdajlhfoaa.Dc
