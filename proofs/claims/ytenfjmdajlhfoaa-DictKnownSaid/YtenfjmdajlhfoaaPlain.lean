/- Plain arithmetic of numbers written seven bits to a byte: what is written is read as it was, what is read is what is written, and how many bytes there are. No program is spoken of here. -/
import Derived.Lib.BitFns
import Derived.Laws.BitsAllLaws
namespace Go.Proofs.Ytenfjmdajlhfoaa.Leb
open Go
set_option linter.unusedVariables false

/-- A number's bytes, f + 1 of them at most. -/
def encF : Nat → Nat → List Nat
  | 0, n => [n]
  | f + 1, n => if n < 128 then [n] else (n % 128 + 128) :: encF f (n / 128)
/-- A number's bytes (of a number below 2^64). -/
def enc (n : Nat) : List Nat := encF 9 n

/-- Reading on, i bytes having been read that come to n: the number, how many bytes, the error. -/
def decF (i n : Nat) : List Nat → Nat × Nat × Nat
  | [] => (0, 0, 3)
  | d :: r => if i = 9 ∧ 1 < d then (0, 0, 6) else if 0 < i ∧ d = 0 then (0, 0, 10) else if d < 128 then (n + d * 128 ^ i, i + 1, 0) else decF (i + 1) (n + d % 128 * 128 ^ i) r
def dec (l : List Nat) : Nat × Nat × Nat := decF 0 0 l

theorem pow_step (i : Nat) : 128 ^ (i + 1) = 128 ^ i * 128 := Nat.pow_succ ..

theorem encF_pos (f n : Nat) : 0 < (encF f n).length := by
  cases f <;> simp only [encF]
  · simp
  · split <;> simp

theorem encF_more : ∀ f n, n < 128 ^ (f + 1) → encF (f + 1) n = encF f n
  | 0, n, h => by simp only [encF]; rw [if_pos (by simpa using h)]
  | f + 1, n, h => by
    rw [encF]
    conv => rhs; rw [encF]
    split
    · rfl
    · rw [encF_more f (n / 128) (by rw [pow_step] at h; omega)]

theorem enc_small (n : Nat) (h : n < 128) : enc n = [n] := by unfold enc; rw [encF, if_pos h]
theorem enc_big (n : Nat) (h : 128 ≤ n) (hn : n < 2 ^ 64) : enc n = (n % 128 + 128) :: enc (n / 128) := by
  unfold enc
  rw [encF, if_neg (by omega), ← encF_more 8 (n / 128) (by omega)]

theorem encF_mono : ∀ f n m, n ≤ m → (encF f n).length ≤ (encF f m).length
  | 0, n, m, _ => by simp [encF]
  | f + 1, n, m, h => by
    rw [encF, encF]
    split <;> split
    · simp
    · simp
    · omega
    · have := encF_mono f (n / 128) (m / 128) (by omega)
      simpa using this
theorem enc_mono (n m : Nat) (h : n ≤ m) : (enc n).length ≤ (enc m).length := encF_mono 9 n m h

theorem encF_len : ∀ f n, (encF f n).length ≤ f + 1
  | 0, n => by simp [encF]
  | f + 1, n => by
    rw [encF]
    split
    · simp
    · have := encF_len f (n / 128)
      simpa using this
theorem enc_len (n : Nat) : (enc n).length ≤ 10 := encF_len 9 n
theorem enc_pos (n : Nat) : 0 < (enc n).length := encF_pos 9 n

theorem encF_byte : ∀ f n, n < 128 ^ (f + 1) → ∀ x ∈ encF f n, x < 256
  | 0, n, h, x, hx => by simp [encF] at hx h; omega
  | f + 1, n, h, x, hx => by
    rw [encF] at hx
    split at hx
    · simp at hx; omega
    · rcases List.mem_cons.1 hx with rfl | hx
      · omega
      · exact encF_byte f (n / 128) (by rw [pow_step] at h; omega) x hx
theorem enc_byte (n : Nat) (h : n < 2 ^ 64) : ∀ x ∈ enc n, x < 256 := encF_byte 9 n (by omega)

/-- The digits, by place. -/
theorem encF_get : ∀ f n i, n < 128 ^ (f + 1) → i < (encF f n).length →
    (encF f n).getD i 0 = (if i + 1 < (encF f n).length then n / 128 ^ i % 128 + 128 else n / 128 ^ i) ∧ (i + 1 = (encF f n).length → n / 128 ^ i < 128)
  | 0, n, i, h, hi => by
    simp [encF] at hi ⊢
    subst hi
    simpa using h
  | f + 1, n, i, h, hi => by
    rw [encF] at hi ⊢
    split
    · rename_i hs
      rw [if_pos hs] at hi
      simp at hi ⊢
      subst hi
      simpa using hs
    · rename_i hs
      rw [if_neg hs] at hi
      cases i with
      | zero =>
        have := encF_pos f (n / 128)
        rw [List.length_cons, if_pos (by omega)]
        exact ⟨by simp, fun e => by omega⟩
      | succ i =>
        have ih := encF_get f (n / 128) i (by rw [pow_step] at h; omega) (by simpa using hi)
        have e : n / 128 ^ (i + 1) = n / 128 / 128 ^ i := by rw [pow_step, Nat.mul_comm, Nat.div_div_eq_div_mul]
        rw [e]
        simpa using ih
theorem enc_get (n i : Nat) (h : n < 2 ^ 64) (hi : i < (enc n).length) :
    (enc n).getD i 0 = (if i + 1 < (enc n).length then n / 128 ^ i % 128 + 128 else n / 128 ^ i) ∧ (i + 1 = (enc n).length → n / 128 ^ i < 128) :=
  encF_get 9 n i (by omega) hi

/-- What is written is read as it was, whatever stands behind. -/
theorem decF_encF : ∀ g i n v t, g + i = 9 → (0 < i → v ≠ 0) → v < 128 ^ g * 2 → decF i n (encF g v ++ t) = (n + v * 128 ^ i, i + (encF g v).length, 0)
  | 0, i, n, v, t, hg, h0, hv => by
    obtain rfl : i = 9 := by omega
    simp at hv
    simp only [encF, List.cons_append, List.nil_append, decF]
    rw [if_neg (by omega), if_neg (by omega), if_pos (by omega)]
    simp
  | g + 1, i, n, v, t, hg, h0, hv => by
    rw [encF]
    split
    · simp only [List.cons_append, List.nil_append, decF]
      rw [if_neg (by omega), if_neg (by omega), if_pos (by omega)]
      simp
    · rename_i hs
      simp only [List.cons_append, decF]
      rw [if_neg (by omega), if_neg (by omega), if_neg (by omega), decF_encF g (i + 1) _ (v / 128) t (by omega) (by omega) (by rw [pow_step] at hv; omega)]
      have e : (v % 128 + 128) % 128 = v % 128 := by omega
      have e2 : v * 128 ^ i = v % 128 * 128 ^ i + v / 128 * 128 ^ (i + 1) := by
        rw [pow_step, Nat.mul_comm (128 ^ i) 128, ← Nat.mul_assoc, ← Nat.add_mul]
        congr 1
        omega
      rw [e, e2]
      simp
      omega
theorem dec_enc (n : Nat) (t : List Nat) (h : n < 2 ^ 64) : dec (enc n ++ t) = (n, (enc n).length, 0) := by
  have := decF_encF 9 0 0 n t rfl (by omega) (by omega)
  simpa [dec, enc] using this

/-- What is read is what is written of the number that is read. -/
theorem encF_decF : ∀ l i n m k, (∀ x ∈ l, x < 256) → i ≤ 9 → decF i n l = (m, k, 0) →
    ∃ v, m = n + v * 128 ^ i ∧ i < k ∧ k - i ≤ l.length ∧ l.take (k - i) = encF (9 - i) v ∧ (0 < i → v ≠ 0) ∧ v < 128 ^ (9 - i) * 2
  | [], i, n, m, k, _, hi, h => by simp [decF] at h
  | d :: r, i, n, m, k, hb, hi, h => by
    rw [decF] at h
    split at h
    · simp at h
    · split at h
      · simp at h
      · rename_i h9 h0
        split at h
        · rename_i hd
          simp only [Prod.mk.injEq, and_true] at h
          obtain ⟨rfl, rfl⟩ := h
          refine ⟨d, rfl, by omega, by simp, ?_, by omega, ?_⟩
          · rw [show i + 1 - i = 1 by omega]
            simp only [List.take_succ_cons, List.take_zero]
            cases hg : 9 - i with
            | zero => rfl
            | succ g => rw [encF, if_pos hd]
          · cases hg : 9 - i with
            | zero => simp; omega
            | succ g =>
              have := Nat.one_le_pow g 128 (by omega)
              rw [pow_step]
              omega
        · rename_i hd
          have h9' : i ≠ 9 := fun e => h9 ⟨e, by omega⟩
          have hd' : d < 256 := hb d (by simp)
          obtain ⟨v, hm, hk, hl, ht, hv, hw⟩ := encF_decF r (i + 1) _ m k (fun x hx => hb x (by simp [hx])) (by omega) h
          have hv' : v ≠ 0 := hv (by omega)
          have e9 : 9 - i = (9 - (i + 1)) + 1 := by omega
          refine ⟨d % 128 + 128 * v, ?_, by omega, by simp; omega, ?_, by omega, ?_⟩
          · rw [hm, pow_step, Nat.add_mul, Nat.add_assoc, Nat.mul_assoc 128, Nat.mul_comm 128, Nat.mul_assoc]
          · rw [show k - i = (k - (i + 1)) + 1 by omega, List.take_succ_cons, ht, e9, encF, if_neg (by omega)]
            congr 1
            · omega
            · congr 1
              omega
          · rw [e9, pow_step]
            omega
theorem enc_dec (l : List Nat) (m k : Nat) (hb : ∀ x ∈ l, x < 256) (h : dec l = (m, k, 0)) : 0 < k ∧ k ≤ l.length ∧ l.take k = enc m ∧ m < 2 ^ 64 := by
  obtain ⟨v, hm, hk, hl, ht, _, hv⟩ := encF_decF l 0 0 m k hb (by omega) h
  simp at hm hl ht hv
  subst hm
  exact ⟨hk, hl, ht, by omega⟩

/-- With an error nothing else is told. -/
theorem decF_err : ∀ l i n, (decF i n l).2.2 ≠ 0 → (decF i n l).1 = 0 ∧ (decF i n l).2.1 = 0
  | [], i, n, _ => by simp [decF]
  | d :: r, i, n, h => by
    rw [decF] at h ⊢
    split
    · simp
    · split
      · simp
      · split
        · rename_i h1 h2 h3
          rw [if_neg h1, if_neg h2, if_pos h3] at h
          simp at h
        · rename_i h1 h2 h3
          rw [if_neg h1, if_neg h2, if_neg h3] at h
          exact decF_err r _ _ h
theorem dec_err (l : List Nat) (h : (dec l).2.2 ≠ 0) : (dec l).1 = 0 ∧ (dec l).2.1 = 0 := decF_err l 0 0 h

/-- The bytes of a number are not the beginning of those of another one. -/
theorem enc_apart (n m : Nat) (hn : n < 2 ^ 64) (hm : m < 2 ^ 64)
    (h : (enc n).take (min (enc n).length (enc m).length) = (enc m).take (min (enc n).length (enc m).length)) : n = m := by
  rcases Nat.le_total (enc n).length (enc m).length with hl | hl
  · rw [Nat.min_eq_left hl, List.take_length] at h
    have h1 := dec_enc n ((enc m).drop (enc n).length) hn
    have h2 := dec_enc m [] hm
    rw [List.append_nil] at h2
    rw [(congrArg (· ++ (enc m).drop (enc n).length) h).trans (List.take_append_drop _ _)] at h1
    rw [h1] at h2
    exact (Prod.mk.inj h2).1
  · rw [Nat.min_eq_right hl, List.take_length] at h
    have h1 := dec_enc m ((enc n).drop (enc m).length) hm
    have h2 := dec_enc n [] hn
    rw [List.append_nil] at h2
    rw [(congrArg (· ++ (enc n).drop (enc m).length) h.symm).trans (List.take_append_drop _ _)] at h1
    rw [h1] at h2
    exact (Prod.mk.inj h2).1.symm

/-- How many bytes, by the number of bits. -/
theorem or_one_half (n : Nat) : (n ||| 1) / 2 = n / 2 := by
  have := Nat.or_div_two (a := n) (b := 1)
  simpa using this
theorem bitLen_or_one (n : Nat) (h0 : n ≠ 0) (h : n < 2 ^ 64) : Lib.bitLen (n ||| 1) = Lib.bitLen n := by
  have h1 : n ||| 1 ≠ 0 := by
    intro e
    have := Nat.or_eq_zero_iff.1 e
    omega
  have h2 : n ||| 1 < 2 ^ 64 := Nat.or_lt_two_pow h (by decide)
  rw [Lib.bitLen_half _ h1 h2, Lib.bitLen_half n h0 h, or_one_half]
theorem bitLen_small : ∀ n : Fin 128, (Lib.bitLen (n.val ||| 1) + 6) / 7 = 1 := by decide +kernel
theorem size_bits : ∀ n, n < 2 ^ 64 → (enc n).length = (Lib.bitLen (n ||| 1) + 6) / 7 := by
  intro n
  induction n using Nat.strongRecOn with
  | ind n ih =>
    intro hn
    rcases Nat.lt_or_ge n 128 with h | h
    · rw [enc_small n h, bitLen_small ⟨n, h⟩]; rfl
    · rw [enc_big n h hn, List.length_cons, ih (n / 128) (by omega) (by omega), bitLen_or_one (n / 128) (by omega) (by omega), bitLen_or_one n (by omega) hn,
        Lib.bitLen_shift 7 n h hn, show (2 : Nat) ^ 7 = 128 from rfl]
      omega
theorem size_pow : ∀ k : Fin 64, (Lib.bitLen (2 ^ k.val ||| 1) + 6) / 7 = k.val / 7 + 1 := by decide +kernel
theorem size_pow_less : ∀ k : Fin 64, (Lib.bitLen ((2 ^ k.val - 1) ||| 1) + 6) / 7 = max 1 ((k.val + 6) / 7) := by decide +kernel
end Go.Proofs.Ytenfjmdajlhfoaa.Leb
