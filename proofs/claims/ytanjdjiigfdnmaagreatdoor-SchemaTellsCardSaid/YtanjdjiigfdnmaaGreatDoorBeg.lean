/- What begins a rune, plainly. -/
import Derived.Test.YtanjdjiigfdnmaaGreatDoorLit
namespace Go.Proofs.YtanjdjiigfdnmaaGreatDoor.Utf
open Go.Lib
set_option linter.unusedVariables false

theorem enc2 (a b : Nat) (ha : 194 ≤ a ∧ a < 224) (hb : 128 ≤ b ∧ b < 192) : ∃ r, isr r ∧ enc r = [a, b] := by
  refine ⟨(a - 192) * 64 + (b - 128), .inl (by omega), ?_⟩
  unfold enc
  rw [if_neg (by omega), if_pos (by omega)]
  simp; omega
theorem enc3 (a b c : Nat) (ha : 224 ≤ a ∧ a < 240) (hb : 128 ≤ b ∧ b < 192) (hc : 128 ≤ c ∧ c < 192) (h1 : a = 224 → 160 ≤ b) (h2 : a = 237 → b < 160) : ∃ r, isr r ∧ enc r = [a, b, c] := by
  refine ⟨(a - 224) * 4096 + (b - 128) * 64 + (c - 128), by unfold isr; omega, ?_⟩
  unfold enc
  rw [if_neg (by omega), if_neg (by omega), if_pos (by omega)]
  simp; omega
theorem enc4 (a b c d : Nat) (ha : 240 ≤ a ∧ a < 245) (hb : 128 ≤ b ∧ b < 192) (hc : 128 ≤ c ∧ c < 192) (hd : 128 ≤ d ∧ d < 192) (h1 : a = 240 → 144 ≤ b) (h2 : a = 244 → b < 144) : ∃ r, isr r ∧ enc r = [a, b, c, d] := by
  refine ⟨(a - 240) * 262144 + (b - 128) * 4096 + (c - 128) * 64 + (d - 128), by unfold isr; omega, ?_⟩
  unfold enc
  rw [if_neg (by omega), if_neg (by omega), if_neg (by omega)]
  simp; omega
theorem nw_of {l : List Nat} (h : ∃ r, isr r ∧ enc r = l) : nw l = l.length := by
  obtain ⟨r, h1, h2⟩ := h
  have := nw_enc r [] h1
  rw [List.append_nil, h2] at this
  exact this
/-- The table, of the bytes that begin runes of several. -/
theorem first2 (a : Nat) (h : 194 ≤ a ∧ a < 224) : firstT a = 2 := by
  unfold firstT; rw [if_neg (by omega), if_neg (by omega), if_pos (by omega)]
theorem first3 (a : Nat) (h : 224 ≤ a ∧ a < 240) : firstT a = if a = 224 then 19 else if a = 237 then 35 else 3 := by
  unfold firstT
  rw [if_neg (by omega), if_neg (by omega), if_neg (by omega)]
  by_cases h1 : a = 224
  · simp [h1]
  · by_cases h2 : a = 237
    · simp [h2]
    · simp only [h1, h2, if_false]
      by_cases h3 : a < 237
      · simp [h3]
      · simp [h3]; omega
theorem first4 (a : Nat) (h : 240 ≤ a ∧ a < 245) : firstT a = if a = 240 then 52 else if a = 244 then 68 else 4 := by
  unfold firstT
  rw [if_neg (by omega), if_neg (by omega), if_neg (by omega), if_neg (by omega), if_neg (by omega), if_neg (by omega), if_neg (by omega)]
  by_cases h1 : a = 240
  · simp [h1]
  · by_cases h2 : a = 244
    · simp [h2]
    · simp only [h1, h2, if_false]
      rw [if_pos (by omega)]
theorem first_bad (a : Nat) (h : a < 194 ∨ 245 ≤ a) : firstT a % 8 ≤ 1 := by
  unfold firstT
  repeat' split
  all_goals omega
/-- Whether bytes are full, by the first one's entry. -/
theorem full_by (l : List Nat) (x : Nat) (hx : firstT (l.getD 0 0) = x) (h : l ≠ []) : full l =
    (if x % 8 ≤ l.length then true else if 1 < l.length ∧ (l.getD 1 0 < accLo (x / 16) ∨ accHi (x / 16) < l.getD 1 0) then true else if 2 < l.length ∧ (l.getD 2 0 < 128 ∨ 191 < l.getD 2 0) then true else false) := by
  have hp : l.length ≠ 0 := fun e => h (List.eq_nil_of_length_eq_zero e)
  unfold full
  simp only [hx]
  rw [if_neg hp]
theorem full_long (l : List Nat) (h : 4 ≤ l.length) : full l = true := by
  have hne : l ≠ [] := fun e => by rw [e] at h; simp at h
  rw [full_by l _ rfl hne, if_pos]
  rcases Nat.lt_or_ge (firstT (l.getD 0 0) % 8) 5 with h5 | h5
  · omega
  · exfalso
    revert h5
    generalize l.getD 0 0 = a
    unfold firstT
    repeat' split
    all_goals omega
def pad (l : List Nat) (n c : Nat) : List Nat := l ++ List.replicate (n - l.length) c
/-- Bytes that are not full can become a rune's. -/
theorem full_false (l : List Nat) (h0 : l ≠ []) (hf : full l = false) : ∃ n, l.length < n ∧ n ≤ 4 ∧ (nw (pad l n 128) = n ∨ nw (pad l n 191) = n) := by
  match l, h0 with
  | a :: t, _ =>
    rcases (show (a < 194 ∨ 245 ≤ a) ∨ (194 ≤ a ∧ a < 224) ∨ (224 ≤ a ∧ a < 240) ∨ (240 ≤ a ∧ a < 245) by omega) with h | h | h | h
    · have := first_bad a h
      rw [full_by (a :: t) _ rfl (by simp), if_pos (by simp at *; omega)] at hf
      cases hf
    · have hx := first2 a h
      rw [full_by (a :: t) 2 hx (by simp)] at hf
      match t, hf with
      | [], _ => exact ⟨2, by simp, by omega, .inl (nw_of (enc2 a 128 h (by omega)))⟩
      | b :: t, hf => simp at hf
    · have hx := first3 a h
      match t, hf with
      | [], _ =>
        refine ⟨3, by simp, by omega, ?_⟩
        by_cases h1 : a = 224
        · exact .inr (nw_of (enc3 a 191 191 h (by omega) (by omega) (by omega) (by omega)))
        · exact .inl (nw_of (enc3 a 128 128 h (by omega) (by omega) (by omega) (by omega)))
      | [b], hf =>
        refine ⟨3, by simp, by omega, .inl (nw_of (enc3 a b 128 h ?_ (by omega) ?_ ?_))⟩
        all_goals
          by_cases h1 : a = 224
          · subst h1
            rw [full_by [224, b] 19 (show Go.Lib.firstT 224 = 19 by decide) (by simp)] at hf
            simp [accLo, accHi] at hf
            omega
          · by_cases h2 : a = 237
            · subst h2
              rw [full_by [237, b] 35 (show Go.Lib.firstT 237 = 35 by decide) (by simp)] at hf
              simp [accLo, accHi] at hf
              omega
            · rw [if_neg h1, if_neg h2] at hx
              rw [full_by [a, b] 3 hx (by simp)] at hf
              simp [accLo, accHi] at hf
              omega
      | b :: c :: t, hf =>
        exfalso
        have h3 : firstT a % 8 = 3 := by rw [hx]; split <;> (try split) <;> omega
        rw [full_by (a :: b :: c :: t) _ rfl (by simp), if_pos (by simp at *; omega)] at hf
        cases hf
    · have hx := first4 a h
      match t, hf with
      | [], _ =>
        refine ⟨4, by simp, by omega, ?_⟩
        by_cases h1 : a = 240
        · exact .inr (nw_of (enc4 a 191 191 191 h (by omega) (by omega) (by omega) (by omega) (by omega)))
        · exact .inl (nw_of (enc4 a 128 128 128 h (by omega) (by omega) (by omega) (by omega) (by omega)))
      | [b], hf =>
        refine ⟨4, by simp, by omega, .inl (nw_of (enc4 a b 128 128 h ?_ (by omega) (by omega) ?_ ?_))⟩
        all_goals
          by_cases h1 : a = 240
          · subst h1
            rw [full_by [240, b] 52 (show Go.Lib.firstT 240 = 52 by decide) (by simp)] at hf
            simp [accLo, accHi] at hf
            omega
          · by_cases h2 : a = 244
            · subst h2
              rw [full_by [244, b] 68 (show Go.Lib.firstT 244 = 68 by decide) (by simp)] at hf
              simp [accLo, accHi] at hf
              omega
            · rw [if_neg h1, if_neg h2] at hx
              rw [full_by [a, b] 4 hx (by simp)] at hf
              simp [accLo, accHi] at hf
              omega
      | [b, c], hf =>
        refine ⟨4, by simp, by omega, .inl (nw_of (enc4 a b c 128 h ?_ ?_ (by omega) ?_ ?_))⟩
        all_goals
          by_cases h1 : a = 240
          · subst h1
            rw [full_by [240, b, c] 52 (show Go.Lib.firstT 240 = 52 by decide) (by simp)] at hf
            simp [accLo, accHi] at hf
            omega
          · by_cases h2 : a = 244
            · subst h2
              rw [full_by [244, b, c] 68 (show Go.Lib.firstT 244 = 68 by decide) (by simp)] at hf
              simp [accLo, accHi] at hf
              omega
            · rw [if_neg h1, if_neg h2] at hx
              rw [full_by [a, b, c] 4 hx (by simp)] at hf
              simp [accLo, accHi] at hf
              omega
      | b :: c :: d :: t, hf =>
        rw [full_long _ (by simp)] at hf
        cases hf
/-- The beginning of a rune's bytes is not full. -/
theorem full_prefix (r j : Nat) (h : isr r) (h0 : 0 < j) (hj : j < (enc r).length) : full ((enc r).take j) = false := by
  unfold isr at h
  unfold enc at hj ⊢
  by_cases h1 : r < 128
  · rw [if_pos h1] at hj; simp at hj; omega
  · rw [if_neg h1] at hj ⊢
    by_cases h2 : r < 2048
    · rw [if_pos h2] at hj ⊢
      obtain rfl : j = 1 := by simp at hj; omega
      show full [192 + r / 64] = false
      rw [full_by [192 + r / 64] 2 (first2 _ (by simp; omega)) (by simp)]
      simp
    · rw [if_neg h2] at hj ⊢
      by_cases h3 : r < 65536
      · rw [if_pos h3] at hj ⊢
        have hx := first3 (224 + r / 4096) (by omega)
        generalize ha : 224 + r / 4096 = a at *
        generalize hb : 128 + r / 64 % 64 = b at *
        simp at hj
        by_cases a1 : a = 224
        · rw [if_pos a1] at hx
          rcases (show j = 1 ∨ j = 2 by omega) with rfl | rfl
          · show full [a] = false; rw [full_by [a] 19 hx (by simp)]; simp
          · show full [a, b] = false; rw [full_by [a, b] 19 hx (by simp)]; simp [accLo, accHi]; omega
        · rw [if_neg a1] at hx
          by_cases a2 : a = 237
          · rw [if_pos a2] at hx
            rcases (show j = 1 ∨ j = 2 by omega) with rfl | rfl
            · show full [a] = false; rw [full_by [a] 35 hx (by simp)]; simp
            · show full [a, b] = false; rw [full_by [a, b] 35 hx (by simp)]; simp [accLo, accHi]; omega
          · rw [if_neg a2] at hx
            rcases (show j = 1 ∨ j = 2 by omega) with rfl | rfl
            · show full [a] = false; rw [full_by [a] 3 hx (by simp)]; simp
            · show full [a, b] = false; rw [full_by [a, b] 3 hx (by simp)]; simp [accLo, accHi]; omega
      · rw [if_neg h3] at hj ⊢
        have hx := first4 (240 + r / 262144) (by omega)
        generalize ha : 240 + r / 262144 = a at *
        generalize hb : 128 + r / 4096 % 64 = b at *
        generalize hc : 128 + r / 64 % 64 = c at *
        simp at hj
        by_cases a1 : a = 240
        · rw [if_pos a1] at hx
          rcases (show j = 1 ∨ j = 2 ∨ j = 3 by omega) with rfl | rfl | rfl
          · show full [a] = false; rw [full_by [a] 52 hx (by simp)]; simp
          · show full [a, b] = false; rw [full_by [a, b] 52 hx (by simp)]; simp [accLo, accHi]; omega
          · show full [a, b, c] = false; rw [full_by [a, b, c] 52 hx (by simp)]; simp [accLo, accHi]; omega
        · rw [if_neg a1] at hx
          by_cases a2 : a = 244
          · rw [if_pos a2] at hx
            rcases (show j = 1 ∨ j = 2 ∨ j = 3 by omega) with rfl | rfl | rfl
            · show full [a] = false; rw [full_by [a] 68 hx (by simp)]; simp
            · show full [a, b] = false; rw [full_by [a, b] 68 hx (by simp)]; simp [accLo, accHi]; omega
            · show full [a, b, c] = false; rw [full_by [a, b, c] 68 hx (by simp)]; simp [accLo, accHi]; omega
          · rw [if_neg a2] at hx
            rcases (show j = 1 ∨ j = 2 ∨ j = 3 by omega) with rfl | rfl | rfl
            · show full [a] = false; rw [full_by [a] 4 hx (by simp)]; simp
            · show full [a, b] = false; rw [full_by [a, b] 4 hx (by simp)]; simp [accLo, accHi]; omega
            · show full [a, b, c] = false; rw [full_by [a, b, c] 4 hx (by simp)]; simp [accLo, accHi]; omega
theorem nw_prefix (r j : Nat) (h : isr r) (hj : j < (enc r).length) : nw ((enc r).take j) = 0 := by
  rcases Nat.eq_zero_or_pos (nw ((enc r).take j)) with h0 | h0
  · exact h0
  · exfalso
    have hb : ∀ x ∈ (enc r).take j, x < 256 := take_byte (enc_byte r h) j
    obtain ⟨i1, i2, i3, i4⟩ := nx_some _ hb (by omega)
    have e : enc r = enc (nr ((enc r).take j)) ++ (((enc r).take j).drop (nw ((enc r).take j)) ++ (enc r).drop j) := by
      rw [← List.append_assoc, ← i2, List.take_append_drop]
    have h1 := nw_enc r [] h
    rw [List.append_nil, e, nw_enc _ _ i1, ← e, i3] at h1
    rw [List.length_take] at i4
    omega
/-- Full bytes become no rune's. -/
theorem full_true (l : List Nat) (hl : ∀ x ∈ l, x < 256) (h0 : l ≠ []) (hf : full l = true) (n c : Nat) (hc : c < 256) (hn : l.length < n) : nw (pad l n c) ≠ n := by
  intro h
  have hp : 0 < l.length := by cases l with | nil => exact absurd rfl h0 | cons => simp
  have hb : ∀ x ∈ pad l n c, x < 256 := fun x hx => by
    rcases List.mem_append.1 hx with hx | hx
    · exact hl x hx
    · rw [(List.mem_replicate.1 hx).2]; exact hc
  obtain ⟨i1, i2, i3, i4⟩ := nx_some _ hb (by omega)
  have hlen : (pad l n c).length = n := by unfold pad; simp; omega
  rw [h, List.drop_of_length_le (by omega), List.append_nil] at i2
  have e : (enc (nr (pad l n c))).take l.length = l := by
    rw [← i2]; unfold pad; simp
  have := full_prefix _ l.length i1 hp (by rw [i3, h]; exact hn)
  rw [e, hf] at this
  cases this
end Go.Proofs.YtanjdjiigfdnmaaGreatDoor.Utf
