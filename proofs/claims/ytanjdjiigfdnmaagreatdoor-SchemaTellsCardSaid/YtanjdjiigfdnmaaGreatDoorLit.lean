/- Literals, plainly: what a literal's parts say, the tidy literal; no program. -/
import Derived.Test.YtanjdjiigfdnmaaGreatDoorPlain
namespace Go.Proofs.YtanjdjiigfdnmaaGreatDoor.Utf
set_option linter.unusedVariables false

/-- A digit below 16, in small letters; in capitals. -/
def hex (d : Nat) : Nat := if d < 10 then 48 + d else 87 + d
def hexC (d : Nat) : Nat := if d < 10 then 48 + d else 55 + d
/-- A byte, in the tidy literal. -/
def escB (c : Nat) : List Nat :=
  if c = 34 then [92, 34] else if c = 92 then [92, 92] else if c = 8 then [92, 98] else if c = 12 then [92, 102] else if c = 10 then [92, 110] else if c = 13 then [92, 114] else if c = 9 then [92, 116]
  else if c < 32 then [92, 117, 48, 48, hex (c / 16), hex (c % 16)] else [c]
def escs (l : List Nat) : List Nat := l.flatMap escB
def tidy (l : List Nat) : List Nat := 34 :: (escs l ++ [34])
theorem escs_append (a b : List Nat) : escs (a ++ b) = escs a ++ escs b := by simp [escs]
theorem escs_cons (a : Nat) (b : List Nat) : escs (a :: b) = escB a ++ escs b := by simp [escs]
theorem escB_high (c : Nat) (h : 128 ≤ c) : escB c = [c] := by
  unfold escB
  rw [if_neg (by omega), if_neg (by omega), if_neg (by omega), if_neg (by omega), if_neg (by omega), if_neg (by omega), if_neg (by omega), if_neg (by omega)]
theorem enc_low (r : Nat) (h : r < 128) : enc r = [r] := by simp [enc, h]
theorem enc_high (r : Nat) (h : 128 ≤ r) : ∀ x ∈ enc r, 128 ≤ x := by
  intro x hx; unfold enc at hx
  rw [if_neg (by omega)] at hx
  repeat' split at hx
  all_goals simp at hx
  all_goals omega
theorem escs_high : ∀ (l : List Nat), (∀ x ∈ l, 128 ≤ x) → escs l = l
  | [], _ => rfl
  | a :: l, h => by
    rw [escs_cons, escB_high a (h a (List.mem_cons_self ..)), escs_high l fun x hx => h x (List.mem_cons_of_mem _ hx)]
    rfl
/-- A rune, in the tidy literal. -/
def escR (r : Nat) : List Nat := if r < 128 then escB r else enc r
theorem escs_enc (r : Nat) : escs (enc r) = escR r := by
  unfold escR
  by_cases h : r < 128
  · rw [if_pos h, enc_low r h]; simp [escs]
  · rw [if_neg h, escs_high _ (enc_high r (by omega))]
theorem escB_byte (c : Nat) (h : c < 256) : ∀ x ∈ escB c, x < 256 := by
  intro x hx; unfold escB hex at hx
  repeat' split at hx
  all_goals simp at hx
  all_goals omega
theorem escs_byte (l : List Nat) (h : ∀ x ∈ l, x < 256) : ∀ x ∈ escs l, x < 256 := by
  intro x hx
  obtain ⟨c, hc, hx⟩ := List.mem_flatMap.1 hx
  exact escB_byte c (h c hc) x hx
theorem tidy_byte (l : List Nat) (h : ∀ x ∈ l, x < 256) : ∀ x ∈ tidy l, x < 256 := by
  intro x hx
  rcases List.mem_cons.1 hx with rfl | hx
  · omega
  · rcases List.mem_append.1 hx with hx | hx
    · exact escs_byte l h x hx
    · simp at hx; omega

/-! ### what a literal says -/
/-- What a letter behind a \ says; 0: nothing. -/
def said (c : Nat) : Nat := if c = 34 then 34 else if c = 92 then 92 else if c = 47 then 47 else if c = 98 then 8 else if c = 102 then 12 else if c = 110 then 10 else if c = 114 then 13 else if c = 116 then 9 else 0
/-- A digit's number; 16: it is none. -/
def dig (c : Nat) : Nat := if 48 ≤ c ∧ c ≤ 57 then c - 48 else if 97 ≤ c ∧ c ≤ 102 then c - 87 else if 65 ≤ c ∧ c ≤ 70 then c - 55 else 16
/-- Can no number come, behind the k-th digit? -/
def bad (second : Bool) (k n : Nat) : Bool := (k == 0 && second && n != 13) || (k == 1 && second != (decide (220 ≤ n) && decide (n ≤ 223)))
/-- Digits from the k-th on. -/
def hxF (second : Bool) : Nat → Nat → Nat → List Nat → Nat × Nat
  | 0, _, n, _ => (n, 0)
  | m + 1, k, n, l => match l with
    | [] => (0, 3)
    | c :: t => if dig c = 16 then (0, 41) else if bad second k (16 * n + dig c) then (0, 41) else hxF second m (k + 1) (16 * n + dig c) t
def hx (second : Bool) (l : List Nat) : Nat × Nat := hxF second 4 0 0 l
/-- Is it \u, so far? -/
def pre (l : List Nat) : Nat := if l.length = 0 then 3 else if l.getD 0 0 ≠ 92 then 41 else if l.length = 1 then 3 else if l.getD 1 0 ≠ 117 then 41 else 0
/-- An escape: the rune, how many bytes it has, the error. -/
def esc (l : List Nat) : Nat × Nat × Nat :=
  if l.length < 2 then (0, 0, 3)
  else if l.getD 1 0 = 117 then
    (if (hx false (l.drop 2)).2 ≠ 0 then (0, 0, (hx false (l.drop 2)).2)
     else if (hx false (l.drop 2)).1 < 55296 ∨ 56319 < (hx false (l.drop 2)).1 then ((hx false (l.drop 2)).1, 6, 0)
     else if pre (l.drop 6) ≠ 0 then (0, 0, pre (l.drop 6))
     else if (hx true (l.drop 8)).2 ≠ 0 then (0, 0, (hx true (l.drop 8)).2)
     else (65536 + 1024 * ((hx false (l.drop 2)).1 - 55296) + ((hx true (l.drop 8)).1 - 56320), 12, 0))
  else if said (l.getD 1 0) = 0 then (0, 0, 41) else (said (l.getD 1 0), 2, 0)
/-- Are these bytes none that more bytes could make a rune's? (What the library tells, of bytes with which no rune begins.) -/
def full (l : List Nat) : Bool :=
  let b0 := l.getD 0 0
  let x := Go.Lib.firstT b0
  if l.length = 0 then false
  else if x % 8 ≤ l.length then true
  else if 1 < l.length ∧ (l.getD 1 0 < Go.Lib.accLo (x / 16) ∨ Go.Lib.accHi (x / 16) < l.getD 1 0) then true
  else if 2 < l.length ∧ (l.getD 2 0 < 128 ∨ 191 < l.getD 2 0) then true
  else false
/-- A part: the rune, how many bytes it has, the error. -/
def part (l : List Nat) : Nat × Nat × Nat :=
  if l.getD 0 0 = 92 then esc l
  else if nw l ≠ 0 then (if nr l < 32 then (0, 0, 41) else (nr l, nw l, 0))
  else if full l then (0, 0, 40) else (0, 0, 3)
/-- What stands behind the first quote: the text, the bytes with the last quote, the error. -/
def ubF : Nat → List Nat → List Nat × Nat × Nat
  | 0, _ => ([], 0, 3)
  | f + 1, l =>
    if l = [] then ([], 0, 3)
    else if l.getD 0 0 = 34 then ([], 1, 0)
    else if (part l).2.2 ≠ 0 then ([], 0, (part l).2.2)
    else if (ubF f (l.drop (part l).2.1)).2.2 ≠ 0 then ([], 0, (ubF f (l.drop (part l).2.1)).2.2)
    else (enc (part l).1 ++ (ubF f (l.drop (part l).2.1)).1, (part l).2.1 + (ubF f (l.drop (part l).2.1)).2.1, 0)
def ub (l : List Nat) : List Nat × Nat × Nat := ubF l.length l
/-- A literal: the text, how many bytes it has, the error. -/
def unq (l : List Nat) : List Nat × Nat × Nat :=
  if l = [] then ([], 0, 3)
  else if l.getD 0 0 ≠ 34 then ([], 0, 41)
  else if (ub (l.drop 1)).2.2 ≠ 0 then ([], 0, (ub (l.drop 1)).2.2)
  else ((ub (l.drop 1)).1, (ub (l.drop 1)).2.1 + 1, 0)

theorem drop_two (l : List Nat) (h : 2 ≤ l.length) : l = l.getD 0 0 :: l.getD 1 0 :: l.drop 2 := by
  match l, h with | a :: b :: t, _ => simp
theorem dig_lt (c : Nat) (h : dig c ≠ 16) : dig c < 16 := by
  unfold dig at h ⊢
  by_cases h1 : 48 ≤ c ∧ c ≤ 57
  · rw [if_pos h1]; omega
  · by_cases h2 : 97 ≤ c ∧ c ≤ 102
    · rw [if_neg h1, if_pos h2]; omega
    · by_cases h3 : 65 ≤ c ∧ c ≤ 70
      · rw [if_neg h1, if_neg h2, if_pos h3]; omega
      · rw [if_neg h1, if_neg h2, if_neg h3] at h; exact absurd rfl h
theorem hxF_good (second : Bool) : ∀ (m k n : Nat) (l : List Nat), (hxF second m k n l).2 = 0 → m ≤ l.length ∧ n * 16 ^ m ≤ (hxF second m k n l).1 ∧ (hxF second m k n l).1 < (n + 1) * 16 ^ m
  | 0, k, n, l, _ => by simp [hxF]
  | m + 1, k, n, [], h => by simp [hxF] at h
  | m + 1, k, n, c :: t, h => by
    unfold hxF at h ⊢
    by_cases h1 : dig c = 16
    · simp [h1] at h
    · by_cases h2 : bad second k (16 * n + dig c) = true
      · simp [h1, h2] at h
      · simp only [h1, h2, if_false] at h ⊢
        obtain ⟨i1, i2, i3⟩ := hxF_good second m (k + 1) (16 * n + dig c) t h
        have hd := dig_lt c h1
        refine ⟨by simp; omega, ?_, ?_⟩
        · refine Nat.le_trans ?_ i2
          rw [Nat.pow_succ, ← Nat.mul_assoc, Nat.mul_right_comm]
          exact Nat.mul_le_mul_right _ (by omega)
        · refine Nat.lt_of_lt_of_le i3 ?_
          rw [Nat.pow_succ, ← Nat.mul_assoc, Nat.mul_right_comm]
          exact Nat.mul_le_mul_right _ (by omega)

theorem hx_len (second : Bool) (l : List Nat) (h : (hx second l).2 = 0) : 4 ≤ l.length ∧ (hx second l).1 < 65536 := by
  obtain ⟨h1, _, h3⟩ := hxF_good second 4 0 0 l h
  exact ⟨h1, by unfold hx; omega⟩
/-- The first two digits say whether it is a second half. -/
theorem hx_two (second : Bool) (l : List Nat) (h : (hx second l).2 = 0) : ∃ n, bad second 1 n = false ∧ n * 256 ≤ (hx second l).1 ∧ (hx second l).1 < (n + 1) * 256 := by
  obtain ⟨h1, _⟩ := hx_len second l h
  match l, h1 with
  | a :: b :: t, _ =>
    unfold hx at h ⊢
    rw [hxF] at h ⊢
    by_cases c1 : dig a = 16
    · rw [if_pos c1] at h; simp at h
    · by_cases c2 : bad second 0 (16 * 0 + dig a) = true
      · rw [if_neg c1, if_pos c2] at h; simp at h
      · simp only [c1, c2, if_false] at h ⊢
        rw [hxF] at h ⊢
        by_cases c3 : dig b = 16
        · simp [c3] at h
        · by_cases c4 : bad second (0 + 1) (16 * (16 * 0 + dig a) + dig b) = true
          · rw [if_neg (by simp), if_neg c3, if_pos c4] at h; simp at h
          · simp only [c3, c4, if_false] at h ⊢
            obtain ⟨_, i2, i3⟩ := hxF_good second 2 _ _ t h
            exact ⟨_, by simpa using c4, by simpa using i2, by simpa using i3⟩
theorem hx_first (l : List Nat) (h : (hx false l).2 = 0) : ¬ (56320 ≤ (hx false l).1 ∧ (hx false l).1 ≤ 57343) := by
  obtain ⟨n, h1, h2, h3⟩ := hx_two false l h
  simp [bad] at h1
  omega
theorem hx_second (l : List Nat) (h : (hx true l).2 = 0) : 56320 ≤ (hx true l).1 ∧ (hx true l).1 ≤ 57343 := by
  obtain ⟨n, h1, h2, h3⟩ := hx_two true l h
  simp [bad] at h1
  omega
theorem pre_good (l : List Nat) (h : pre l = 0) : 2 ≤ l.length := by
  unfold pre at h
  repeat' split at h
  all_goals omega
theorem escB_len (c : Nat) : 1 ≤ (escB c).length ∧ (escB c).length ≤ 6 := by
  unfold escB; repeat' split
  all_goals simp
theorem escR_len (r : Nat) : 1 ≤ (escR r).length ∧ (escR r).length ≤ 6 := by
  unfold escR
  have := escB_len r
  have := enc_len r
  split <;> omega
theorem said_rune (c : Nat) (h : said c ≠ 0) : said c < 128 ∧ (escB (said c)).length ≤ 2 := by
  unfold said at h ⊢
  repeat' split
  all_goals first | (exact ⟨by omega, by decide⟩) | skip
  simp_all
/-- A part says a rune; it is not shorter than that rune in the tidy literal. -/
theorem part_good (l : List Nat) (hl : ∀ x ∈ l, x < 256) (h0 : l.getD 0 0 ≠ 34) (h : (part l).2.2 = 0) :
    isr (part l).1 ∧ 0 < (part l).2.1 ∧ (part l).2.1 ≤ l.length ∧ (escR (part l).1).length ≤ (part l).2.1 := by
  unfold part at h ⊢
  by_cases h1 : l.getD 0 0 = 92
  · rw [if_pos h1] at h ⊢
    unfold esc at h ⊢
    by_cases c1 : l.length < 2
    · simp [c1] at h
    · rw [if_neg c1] at h ⊢
      by_cases c2 : l.getD 1 0 = 117
      · rw [if_pos c2] at h ⊢
        by_cases c3 : (hx false (l.drop 2)).2 ≠ 0
        · rw [if_pos c3] at h; exact absurd h c3
        · rw [if_neg c3] at h ⊢
          have k1 := hx_len false _ (by omega : (hx false (l.drop 2)).2 = 0)
          have k2 := hx_first _ (by omega : (hx false (l.drop 2)).2 = 0)
          rw [List.length_drop] at k1
          by_cases c4 : (hx false (l.drop 2)).1 < 55296 ∨ 56319 < (hx false (l.drop 2)).1
          · rw [if_pos c4]
            exact ⟨by unfold isr; simp only; omega, by simp, by simp only; omega, (escR_len _).2⟩
          · rw [if_neg c4] at h ⊢
            by_cases c5 : pre (l.drop 6) ≠ 0
            · rw [if_pos c5] at h; exact absurd h c5
            · rw [if_neg c5] at h ⊢
              by_cases c6 : (hx true (l.drop 8)).2 ≠ 0
              · rw [if_pos c6] at h; exact absurd h c6
              · rw [if_neg c6]
                have k3 := hx_len true _ (by omega : (hx true (l.drop 8)).2 = 0)
                have k4 := hx_second _ (by omega : (hx true (l.drop 8)).2 = 0)
                rw [List.length_drop] at k3
                refine ⟨by unfold isr; simp only; omega, by simp, by simp only; omega, ?_⟩
                have := (escR_len (65536 + 1024 * ((hx false (l.drop 2)).1 - 55296) + ((hx true (l.drop 8)).1 - 56320))).2
                simp only; omega
      · rw [if_neg c2] at h ⊢
        by_cases c3 : said (l.getD 1 0) = 0
        · rw [if_pos c3] at h; simp at h
        · rw [if_neg c3]
          obtain ⟨k1, k2⟩ := said_rune _ c3
          refine ⟨.inl (by simp only; omega), by simp, by simp only; omega, ?_⟩
          simp only [escR]
          rw [if_pos k1]; exact k2
  · rw [if_neg h1] at h ⊢
    by_cases c1 : nw l ≠ 0
    · rw [if_pos c1] at h ⊢
      obtain ⟨i1, i2, i3, i4⟩ := nx_some l hl c1
      by_cases c2 : nr l < 32
      · simp [c2] at h
      · rw [if_neg c2]
        refine ⟨i1, by simp only; omega, i4, ?_⟩
        simp only [escR]
        by_cases c3 : nr l < 128
        · rw [enc_low _ c3] at i2
          have e : l.getD 0 0 = nr l := by
            conv => lhs; rw [i2]
            rfl
          rw [if_pos c3]
          have : escB (nr l) = [nr l] := by
            unfold escB
            rw [if_neg (by omega), if_neg (by omega), if_neg (by omega), if_neg (by omega), if_neg (by omega), if_neg (by omega), if_neg (by omega), if_neg (by omega)]
          rw [this]; simp; omega
        · rw [if_neg c3, i3]; exact Nat.le_refl _
    · rw [if_neg c1] at h
      by_cases c2 : full l = true
      · simp [c2] at h
      · simp [c2] at h

theorem ubF_more : ∀ (f g : Nat) (l : List Nat), (∀ x ∈ l, x < 256) → l.length ≤ f → l.length ≤ g → ubF f l = ubF g l
  | 0, 0, l, _, _, _ => rfl
  | 0, g + 1, l, _, hf, _ => by
    obtain rfl : l = [] := List.eq_nil_of_length_eq_zero (by omega)
    simp [ubF]
  | f + 1, 0, l, _, _, hg => by
    obtain rfl : l = [] := List.eq_nil_of_length_eq_zero (by omega)
    simp [ubF]
  | f + 1, g + 1, l, hl, hf, hg => by
    unfold ubF
    by_cases h0 : l = []
    · simp [h0]
    · by_cases h1 : l.getD 0 0 = 34
      · rw [if_neg h0, if_neg h0, if_pos h1, if_pos h1]
      · by_cases h2 : (part l).2.2 ≠ 0
        · rw [if_neg h0, if_neg h0, if_neg h1, if_neg h1, if_pos h2, if_pos h2]
        · obtain ⟨_, p1, p2, _⟩ := part_good l hl h1 (by omega)
          simp only [h0, h1, h2, if_false]
          rw [ubF_more f g (l.drop (part l).2.1) (drop_byte hl _) (by simp; omega) (by simp; omega)]
theorem ub_nil : ub [] = ([], 0, 3) := rfl
theorem ub_step (l : List Nat) (hl : ∀ x ∈ l, x < 256) (h : l ≠ []) : ub l =
    if l.getD 0 0 = 34 then ([], 1, 0)
    else if (part l).2.2 ≠ 0 then ([], 0, (part l).2.2)
    else if (ub (l.drop (part l).2.1)).2.2 ≠ 0 then ([], 0, (ub (l.drop (part l).2.1)).2.2)
    else (enc (part l).1 ++ (ub (l.drop (part l).2.1)).1, (part l).2.1 + (ub (l.drop (part l).2.1)).2.1, 0) := by
  have hp : 0 < l.length := by cases l with | nil => exact absurd rfl h | cons => simp
  unfold ub
  rw [ubF_more l.length (l.length - 1 + 1) l hl (Nat.le_refl _) (by omega)]
  conv => lhs; unfold ubF
  rw [if_neg h]
  by_cases h1 : l.getD 0 0 = 34
  · rw [if_pos h1, if_pos h1]
  · rw [if_neg h1, if_neg h1]
    by_cases h2 : (part l).2.2 ≠ 0
    · rw [if_pos h2, if_pos h2]
    · rw [if_neg h2, if_neg h2]
      obtain ⟨_, p1, p2, _⟩ := part_good l hl h1 (by omega)
      rw [ubF_more (l.length - 1) (l.drop (part l).2.1).length (l.drop (part l).2.1) (drop_byte hl _) (by simp; omega) (Nat.le_refl _)]
/-- A literal's end is within the bytes; what it says is UTF-8; the tidy one is not longer. -/
theorem ub_good : ∀ (n : Nat) (l : List Nat), l.length ≤ n → (∀ x ∈ l, x < 256) → (ub l).2.2 = 0 →
    (∃ rs, (∀ r ∈ rs, isr r) ∧ (ub l).1 = encs rs) ∧ (escs (ub l).1).length + 1 ≤ (ub l).2.1 ∧ (ub l).2.1 ≤ l.length
  | 0, l, hn, _, h => by
    obtain rfl : l = [] := List.eq_nil_of_length_eq_zero (by omega)
    simp [ub_nil] at h
  | n + 1, l, hn, hl, h => by
    by_cases h0 : l = []
    · subst h0; simp [ub_nil] at h
    · have hp : 0 < l.length := by cases l with | nil => exact absurd rfl h0 | cons => simp
      rw [ub_step l hl h0] at h ⊢
      by_cases h1 : l.getD 0 0 = 34
      · rw [if_pos h1]
        exact ⟨⟨[], by simp, rfl⟩, by simp [escs], by simp only; omega⟩
      · rw [if_neg h1] at h ⊢
        by_cases h2 : (part l).2.2 ≠ 0
        · rw [if_pos h2] at h; exact absurd h h2
        · rw [if_neg h2] at h ⊢
          obtain ⟨p0, p1, p2, p3⟩ := part_good l hl h1 (by omega)
          by_cases h3 : (ub (l.drop (part l).2.1)).2.2 ≠ 0
          · rw [if_pos h3] at h; exact absurd h h3
          · rw [if_neg h3]
            obtain ⟨⟨rs, i1, i2⟩, i3, i4⟩ := ub_good n (l.drop (part l).2.1) (by simp; omega) (drop_byte hl _) (by omega)
            refine ⟨⟨(part l).1 :: rs, ?_, ?_⟩, ?_, ?_⟩
            · intro r hr
              rcases List.mem_cons.1 hr with rfl | hr
              · exact p0
              · exact i1 r hr
            · simp only; rw [encs_cons, i2]
            · simp only; rw [escs_append, escs_enc, List.length_append]; omega
            · rw [List.length_drop] at i4; simp only; omega
end Go.Proofs.YtanjdjiigfdnmaaGreatDoor.Utf
