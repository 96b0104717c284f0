/- Runes as bytes, plainly: lists of numbers below 256; no program. -/
import Derived.Lib.DecodeN
namespace Go.Proofs.YtanjdjiigfdnmaaGreatDoor.Utf
open Go.Lib
set_option linter.unusedVariables false

/-- Is it a rune? -/
def isr (r : Nat) : Prop := r < 55296 ∨ (57344 ≤ r ∧ r ≤ 1114111)
instance (r : Nat) : Decidable (isr r) := by unfold isr; infer_instance
/-- A rune's bytes. -/
def enc (r : Nat) : List Nat :=
  if r < 128 then [r]
  else if r < 2048 then [192 + r / 64, 128 + r % 64]
  else if r < 65536 then [224 + r / 4096, 128 + r / 64 % 64, 128 + r % 64]
  else [240 + r / 262144, 128 + r / 4096 % 64, 128 + r / 64 % 64, 128 + r % 64]
theorem enc_len (r : Nat) : 1 ≤ (enc r).length ∧ (enc r).length ≤ 4 := by
  unfold enc; repeat' split
  all_goals simp
theorem enc_byte (r : Nat) (h : isr r) : ∀ x ∈ enc r, x < 256 := by
  unfold isr at h
  intro x hx; unfold enc at hx; repeat' split at hx
  all_goals simp at hx
  all_goals omega
def encs (rs : List Nat) : List Nat := rs.flatMap enc
theorem encs_cons (r : Nat) (rs : List Nat) : encs (r :: rs) = enc r ++ encs rs := by simp [encs]
theorem encs_append (a b : List Nat) : encs (a ++ b) = encs a ++ encs b := by simp [encs]

/-- What the model's decoder says of the bytes' beginning. -/
def dec (l : List Nat) : Nat × Nat := decodeN l.length (l.getD 0 0) (l.getD 1 0) (l.getD 2 0) (l.getD 3 0)
/-- How many bytes the first rune has; 0: none begins. -/
def nw (l : List Nat) : Nat := if l = [] ∨ ((dec l).1 = 65533 ∧ (dec l).2 ≤ 1) then 0 else (dec l).2
/-- The first rune; 0: none begins. -/
def nr (l : List Nat) : Nat := if nw l = 0 then 0 else (dec l).1
theorem nw_nil : nw [] = 0 := by simp [nw]
theorem nr_nil : nr [] = 0 := by simp [nr, nw]

set_option maxRecDepth 100000 in
set_option maxHeartbeats 2000000 in
theorem dec_enc (r : Nat) (t : List Nat) (h : isr r) : dec (enc r ++ t) = (r, (enc r).length) := by
  unfold isr at h
  unfold enc dec decodeN
  by_cases h1 : r < 128
  · simp [h1]
  · by_cases h2 : r < 2048
    · simp only [h1, h2, if_true, if_false, List.cons_append, List.nil_append, List.length_cons, List.getD_cons_zero, List.getD_cons_succ]
      rw [if_neg (by omega), if_pos (by omega), if_pos (by omega)]
      simp; omega
    · by_cases h3 : r < 65536
      · simp only [h1, h2, h3, if_true, if_false, List.cons_append, List.nil_append, List.length_cons, List.getD_cons_zero, List.getD_cons_succ]
        rw [if_neg (by omega), if_neg (by omega), if_pos (by omega), if_pos (by omega)]
        simp; omega
      · simp only [h1, h2, h3, if_false, List.cons_append, List.nil_append, List.length_cons, List.getD_cons_zero, List.getD_cons_succ]
        rw [if_neg (by omega), if_neg (by omega), if_neg (by omega), if_pos (by omega), if_pos (by omega)]
        simp; omega
theorem enc_ne (r : Nat) (t : List Nat) : enc r ++ t ≠ [] := by
  intro h
  have := enc_len r
  have h2 := congrArg List.length h
  rw [List.length_append] at h2
  simp only [List.length_nil] at h2
  omega
theorem bad_len (r : Nat) (h : r = 65533) : (enc r).length = 3 := by subst h; decide
theorem nw_enc (r : Nat) (t : List Nat) (h : isr r) : nw (enc r ++ t) = (enc r).length := by
  unfold nw
  rw [dec_enc r t h, if_neg]
  rintro (h1 | ⟨h1, h2⟩)
  · exact enc_ne r t h1
  · have := bad_len r h1
    simp at h2
    omega
theorem nr_enc (r : Nat) (t : List Nat) (h : isr r) : nr (enc r ++ t) = r := by
  unfold nr
  have := enc_len r
  rw [nw_enc r t h, if_neg (by omega), dec_enc r t h]

set_option maxRecDepth 100000 in
set_option maxHeartbeats 4000000 in
/-- What the decoder tells, if it tells a rune. -/
theorem dec_some (n a b c d : Nat) (ha : a < 256) (hb : b < 256) (hc : c < 256) (hd : d < 256) (hn : 0 < n)
    (h : ¬ ((decodeN n a b c d).1 = 65533 ∧ (decodeN n a b c d).2 ≤ 1)) :
    isr (decodeN n a b c d).1 ∧ (decodeN n a b c d).2 ≤ n ∧
      ((decodeN n a b c d).2 = 1 ∧ enc (decodeN n a b c d).1 = [a] ∨ (decodeN n a b c d).2 = 2 ∧ enc (decodeN n a b c d).1 = [a, b] ∨
       (decodeN n a b c d).2 = 3 ∧ enc (decodeN n a b c d).1 = [a, b, c] ∨ (decodeN n a b c d).2 = 4 ∧ enc (decodeN n a b c d).1 = [a, b, c, d]) := by
  unfold decodeN at h ⊢
  by_cases h1 : a < 128
  · simp only [h1, if_true] at h ⊢
    refine ⟨.inl (by omega), by omega, .inl ⟨by simp, ?_⟩⟩
    simp [enc, h1]
  · simp only [h1, if_false] at h ⊢
    by_cases h2 : a / 32 = 6 ∧ (1 < n ∧ b / 64 = 2)
    · rw [if_pos h2] at h ⊢
      by_cases h3 : a % 32 * 64 + b % 64 ≥ 128
      · rw [if_pos h3] at h ⊢
        refine ⟨.inl (by simp only; omega), by simp only; omega, .inr (.inl ⟨rfl, ?_⟩)⟩
        simp only [enc]
        rw [if_neg (by omega), if_pos (by omega)]
        simp; omega
      · rw [if_neg h3] at h; exact absurd (by simp) h
    · rw [if_neg h2] at h ⊢
      by_cases h4 : a / 16 = 14 ∧ (1 < n ∧ b / 64 = 2) ∧ (2 < n ∧ c / 64 = 2)
      · rw [if_pos h4] at h ⊢
        by_cases h3 : a % 16 * 4096 + b % 64 * 64 + c % 64 ≥ 2048 ∧ (a % 16 * 4096 + b % 64 * 64 + c % 64 < 55296 ∨ (57344 ≤ a % 16 * 4096 + b % 64 * 64 + c % 64 ∧ a % 16 * 4096 + b % 64 * 64 + c % 64 ≤ 1114111))
        · rw [if_pos h3] at h ⊢
          refine ⟨by unfold isr; simp only; omega, by simp only; omega, .inr (.inr (.inl ⟨rfl, ?_⟩))⟩
          simp only [enc]
          rw [if_neg (by omega), if_neg (by omega), if_pos (by omega)]
          simp; omega
        · rw [if_neg h3] at h; exact absurd (by simp) h
      · rw [if_neg h4] at h ⊢
        by_cases h5 : a / 8 = 30 ∧ (1 < n ∧ b / 64 = 2) ∧ (2 < n ∧ c / 64 = 2) ∧ (3 < n ∧ d / 64 = 2)
        · rw [if_pos h5] at h ⊢
          by_cases h3 : a % 8 * 262144 + b % 64 * 4096 + c % 64 * 64 + d % 64 ≥ 65536 ∧ (a % 8 * 262144 + b % 64 * 4096 + c % 64 * 64 + d % 64 < 55296 ∨ (57344 ≤ a % 8 * 262144 + b % 64 * 4096 + c % 64 * 64 + d % 64 ∧ a % 8 * 262144 + b % 64 * 4096 + c % 64 * 64 + d % 64 ≤ 1114111))
          · rw [if_pos h3] at h ⊢
            refine ⟨by unfold isr; simp only; omega, by simp only; omega, .inr (.inr (.inr ⟨rfl, ?_⟩))⟩
            simp only [enc]
            rw [if_neg (by omega), if_neg (by omega), if_neg (by omega)]
            simp; omega
          · rw [if_neg h3] at h; exact absurd (by simp) h
        · rw [if_neg h5] at h; exact absurd (by simp) h

theorem getD_byte {l : List Nat} (h : ∀ x ∈ l, x < 256) (k : Nat) : l.getD k 0 < 256 := by
  rcases Nat.lt_or_ge k l.length with hk | hk
  · rw [List.getD_eq_getElem?_getD, List.getElem?_eq_getElem hk]; exact h _ (List.getElem_mem _)
  · rw [List.getD_eq_getElem?_getD, List.getElem?_eq_none hk]; simp
theorem drop_byte {l : List Nat} (h : ∀ x ∈ l, x < 256) (k : Nat) : ∀ x ∈ l.drop k, x < 256 := fun x hx => h x (List.mem_of_mem_drop hx)
theorem take_byte {l : List Nat} (h : ∀ x ∈ l, x < 256) (k : Nat) : ∀ x ∈ l.take k, x < 256 := fun x hx => h x (List.mem_of_mem_take hx)

/-- If a rune begins there, its bytes stand there. -/
theorem nx_some (l : List Nat) (hl : ∀ x ∈ l, x < 256) (h : nw l ≠ 0) : isr (nr l) ∧ l = enc (nr l) ++ l.drop (nw l) ∧ (enc (nr l)).length = nw l ∧ nw l ≤ l.length := by
  have hnr : nr l = (dec l).1 := by unfold nr; rw [if_neg h]
  have h' : ¬ (l = [] ∨ ((dec l).1 = 65533 ∧ (dec l).2 ≤ 1)) := by
    intro hc; unfold nw at h; rw [if_pos hc] at h; exact h rfl
  have hnw : nw l = (dec l).2 := by unfold nw; rw [if_neg h']
  rw [hnr, hnw]
  have hne : l ≠ [] := fun e => h' (.inl e)
  have hpos : 0 < l.length := by cases l with | nil => exact absurd rfl hne | cons => simp
  obtain ⟨i1, i2, i3⟩ := dec_some l.length _ _ _ _ (getD_byte hl 0) (getD_byte hl 1) (getD_byte hl 2) (getD_byte hl 3) hpos (fun e => h' (.inr e))
  change isr (dec l).1 at i1
  change (dec l).2 ≤ l.length at i2
  change (dec l).2 = 1 ∧ enc (dec l).1 = _ ∨ (dec l).2 = 2 ∧ enc (dec l).1 = _ ∨ (dec l).2 = 3 ∧ enc (dec l).1 = _ ∨ (dec l).2 = 4 ∧ enc (dec l).1 = _ at i3
  refine ⟨i1, ?_, ?_, i2⟩
  · rcases i3 with ⟨e1, e2⟩ | ⟨e1, e2⟩ | ⟨e1, e2⟩ | ⟨e1, e2⟩
    all_goals
      rw [e1, e2]
      rw [e1] at i2
    · match l, i2 with | a :: t, _ => simp
    · match l, i2 with | a :: b :: t, _ => simp
    · match l, i2 with | a :: b :: c :: t, _ => simp
    · match l, i2 with | a :: b :: c :: d :: t, _ => simp
  · rcases i3 with ⟨e1, e2⟩ | ⟨e1, e2⟩ | ⟨e1, e2⟩ | ⟨e1, e2⟩ <;> rw [e1, e2] <;> rfl
theorem nx_none (l : List Nat) (h : nw l = 0) : nr l = 0 := by unfold nr; rw [if_pos h]

/-- What some bytes say, were they a rune's. -/
def num (l : List Nat) : Nat :=
  match l with
  | [a] => a
  | [a, b] => a % 32 * 64 + b % 64
  | [a, b, c] => a % 16 * 4096 + b % 64 * 64 + c % 64
  | [a, b, c, d] => a % 8 * 262144 + b % 64 * 4096 + c % 64 * 64 + d % 64
  | _ => 0
theorem num_enc (r : Nat) (h : isr r) : num (enc r) = r := by
  unfold isr at h
  unfold enc; repeat' split
  all_goals simp [num]
  all_goals omega
theorem num_lt (l : List Nat) (hl : ∀ x ∈ l, x < 256) : num l < 2097152 := by
  unfold num
  split
  · have := hl _ (List.mem_cons_self ..); omega
  all_goals omega
/-- The reference's test, of n bytes: it is met just where a rune of n bytes begins. -/
theorem ref_test (l : List Nat) (hl : ∀ x ∈ l, x < 256) (n : Nat) (h0 : 0 < n) (hn : n ≤ l.length) : (isr (num (l.take n)) ∧ enc (num (l.take n)) = l.take n) ↔ nw l = n := by
  constructor
  · rintro ⟨h1, h2⟩
    have e : l = enc (num (l.take n)) ++ l.drop n := by rw [h2]; exact (List.take_append_drop n l).symm
    have h3 := nw_enc _ (l.drop n) h1
    rw [← e, h2] at h3
    rw [h3]; simp; omega
  · intro h
    obtain ⟨i1, i2, i3, i4⟩ := nx_some l hl (by omega)
    have e : l.take n = enc (nr l) := by
      conv => lhs; rw [i2]
      rw [← h, ← i3]; simp
    rw [e, num_enc _ i1]
    exact ⟨i1, rfl⟩
theorem ref_rune (l : List Nat) (hl : ∀ x ∈ l, x < 256) (n : Nat) (h0 : 0 < n) (h : nw l = n) : num (l.take n) = nr l := by
  obtain ⟨i1, i2, i3, i4⟩ := nx_some l hl (by omega)
  have e : l.take n = enc (nr l) := by
    conv => lhs; rw [i2]
    rw [← h, ← i3]; simp
  rw [e, num_enc _ i1]
theorem nw_le4 (l : List Nat) (hl : ∀ x ∈ l, x < 256) : nw l ≤ 4 := by
  rcases Nat.eq_zero_or_pos (nw l) with h | h
  · omega
  · obtain ⟨i1, i2, i3, i4⟩ := nx_some l hl (by omega)
    have := enc_len (nr l)
    omega
theorem nw_le (l : List Nat) (hl : ∀ x ∈ l, x < 256) : nw l ≤ l.length := by
  rcases Nat.eq_zero_or_pos (nw l) with h | h
  · omega
  · exact (nx_some l hl (by omega)).2.2.2

/-! ### UTF-8 -/
def vldF : Nat → List Nat → Bool
  | 0, l => l.isEmpty
  | f + 1, l => if l = [] then true else if nw l = 0 then false else vldF f (l.drop (nw l))
def vld (l : List Nat) : Bool := vldF l.length l
theorem vldF_more : ∀ (f g : Nat) (l : List Nat), l.length ≤ f → l.length ≤ g → vldF f l = vldF g l
  | 0, 0, l, _, _ => rfl
  | 0, g + 1, l, hf, _ => by
    obtain rfl : l = [] := List.eq_nil_of_length_eq_zero (by omega)
    simp [vldF]
  | f + 1, 0, l, _, hg => by
    obtain rfl : l = [] := List.eq_nil_of_length_eq_zero (by omega)
    simp [vldF]
  | f + 1, g + 1, l, hf, hg => by
    unfold vldF
    by_cases h0 : l = []
    · simp [h0]
    · by_cases h1 : nw l = 0
      · simp [h0, h1]
      · simp only [h0, h1, if_false]
        have : 0 < l.length := by cases l with | nil => exact absurd rfl h0 | cons => simp
        exact vldF_more f g _ (by simp; omega) (by simp; omega)
theorem vld_nil : vld [] = true := rfl
theorem vld_step (l : List Nat) (h : l ≠ []) : vld l = if nw l = 0 then false else vld (l.drop (nw l)) := by
  have hp : 0 < l.length := by cases l with | nil => exact absurd rfl h | cons => simp
  unfold vld
  rw [vldF_more l.length (l.length - 1 + 1) l (Nat.le_refl _) (by omega)]
  conv => lhs; unfold vldF
  rw [if_neg h]
  by_cases h1 : nw l = 0
  · simp [h1]
  · simp only [h1, if_false]
    exact vldF_more _ _ _ (by simp; omega) (Nat.le_refl _)
theorem vld_enc (r : Nat) (t : List Nat) (h : isr r) : vld (enc r ++ t) = vld t := by
  have := enc_len r
  rw [vld_step _ (enc_ne r t), nw_enc r t h, if_neg (by omega)]
  simp
theorem vld_encs (rs t : List Nat) (h : ∀ r ∈ rs, isr r) : vld (encs rs ++ t) = vld t := by
  induction rs with
  | nil => rfl
  | cons r rs ih =>
    rw [encs_cons, List.append_assoc, vld_enc r _ (h r (List.mem_cons_self ..)), ih fun x hx => h x (List.mem_cons_of_mem _ hx)]
/-- UTF-8 is the bytes of runes. -/
theorem vld_runes : ∀ (n : Nat) (l : List Nat), l.length ≤ n → (∀ x ∈ l, x < 256) → vld l = true → ∃ rs, (∀ r ∈ rs, isr r) ∧ l = encs rs
  | 0, l, hn, _, _ => ⟨[], by simp, by obtain rfl : l = [] := List.eq_nil_of_length_eq_zero (by omega); rfl⟩
  | n + 1, l, hn, hl, h => by
    by_cases h0 : l = []
    · exact ⟨[], by simp, by rw [h0]; rfl⟩
    · rw [vld_step l h0] at h
      by_cases h1 : nw l = 0
      · simp [h1] at h
      · rw [if_neg h1] at h
        obtain ⟨i1, i2, i3, i4⟩ := nx_some l hl h1
        obtain ⟨rs, j1, j2⟩ := vld_runes n (l.drop (nw l)) (by simp; omega) (drop_byte hl _) h
        refine ⟨nr l :: rs, ?_, ?_⟩
        · intro r hr
          rcases List.mem_cons.1 hr with rfl | hr
          · exact i1
          · exact j1 r hr
        · rw [encs_cons, ← j2]; exact i2
theorem encs_byte (rs : List Nat) (h : ∀ r ∈ rs, isr r) : ∀ x ∈ encs rs, x < 256 := by
  intro x hx
  obtain ⟨r, hr, hx⟩ := List.mem_flatMap.1 hx
  exact enc_byte r (h r hr) x hx
theorem vld_of (rs : List Nat) (h : ∀ r ∈ rs, isr r) : vld (encs rs) = true := by
  have := vld_encs rs [] h
  rwa [List.append_nil, vld_nil] at this
end Go.Proofs.YtanjdjiigfdnmaaGreatDoor.Utf
