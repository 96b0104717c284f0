/- Bools as bits, plainly: bytes of bools, bools of bytes, and how they belong together. No program is spoken of here. -/
import Derived.Test.YtdlgnkfeamkfbaaChecked
namespace Go.Proofs.Ytdlgnkfeamkfbaa.Mk
set_option linter.unusedVariables false

def bit (b : Bool) : Nat := if b then 1 else 0
/-- Bools as a number, the lowest bit first. -/
def nb : List Bool → Nat
  | [] => 0
  | b :: l => bit b + 2 * nb l
/-- A number's lowest bits. -/
def bn : Nat → Nat → List Bool
  | 0, _ => []
  | k + 1, c => (c % 2 == 1) :: bn k (c / 2)
/-- n bytes of bools. -/
def pk : Nat → List Bool → List Nat
  | 0, _ => []
  | n + 1, l => nb (l.take 8) :: pk n (l.drop 8)
/-- The bools of bytes. -/
def ub : List Nat → List Bool
  | [] => []
  | c :: b => bn 8 c ++ ub b
def cnt : List Bool → Nat
  | [] => 0
  | b :: l => bit b + cnt l
/-- How many bytes so many bools have. -/
def sz (n : Nat) : Nat := (n + 7) / 8

theorem bit_lt (b : Bool) : bit b < 2 := by cases b <;> decide
theorem bn_len : ∀ k c, (bn k c).length = k
  | 0, _ => rfl
  | k + 1, c => by rw [bn, List.length_cons, bn_len k]
theorem pk_len : ∀ n l, (pk n l).length = n
  | 0, _ => rfl
  | n + 1, l => by rw [pk, List.length_cons, pk_len n]
theorem ub_len : ∀ b, (ub b).length = 8 * b.length
  | [] => rfl
  | c :: b => by rw [ub, List.length_append, bn_len, ub_len b, List.length_cons]; omega
theorem nb_lt : ∀ l, nb l < 2 ^ l.length
  | [] => by decide
  | b :: l => by
    have := nb_lt l
    have := bit_lt b
    rw [nb, List.length_cons, Nat.pow_succ]; omega
theorem nb_lt8 (l : List Bool) : nb (l.take 8) < 256 := by
  refine Nat.lt_of_lt_of_le (nb_lt _) ?_
  rw [show (256 : Nat) = 2 ^ 8 by rfl]
  exact Nat.pow_le_pow_right (by omega) (by rw [List.length_take]; omega)
theorem pk_lt : ∀ n l, ∀ x ∈ pk n l, x < 256
  | 0, _, x, h => by cases h
  | n + 1, l, x, h => by
    rcases List.mem_cons.1 h with rfl | h
    · exact nb_lt8 l
    · exact pk_lt n _ x h
theorem bn_nb : ∀ l, bn l.length (nb l) = l
  | [] => rfl
  | b :: l => by
    rw [List.length_cons, bn, nb]
    have h1 : (bit b + 2 * nb l) / 2 = nb l := by have := bit_lt b; omega
    have h2 : ((bit b + 2 * nb l) % 2 == 1) = b := by cases b <;> simp [bit] <;> omega
    rw [h1, h2, bn_nb l]
theorem nb_bn : ∀ k c, nb (bn k c) = c % 2 ^ k
  | 0, c => by simp [bn, nb, Nat.mod_one]
  | k + 1, c => by
    rw [bn, nb, nb_bn k, Nat.pow_succ, Nat.mul_comm (2 ^ k) 2, Nat.mod_mul]
    congr 1
    have := Nat.mod_two_eq_zero_or_one c
    rcases this with h | h <;> simp [bit, h]
theorem nb_pad : ∀ (l : List Bool) (k : Nat), nb (l ++ List.replicate k false) = nb l
  | [], k => by
    induction k with
    | zero => rfl
    | succ k ih =>
      rw [List.nil_append] at ih
      rw [List.replicate_succ, List.nil_append]
      show bit false + 2 * nb (List.replicate k false) = 0
      rw [ih]; rfl
  | b :: l, k => by rw [List.cons_append, nb, nb, nb_pad l k]
theorem nb_snoc : ∀ (l : List Bool) (b : Bool), nb (l ++ [b]) = nb l + 2 ^ l.length * bit b
  | [], b => by simp [nb]
  | a :: l, b => by
    rw [List.cons_append, nb, nb, nb_snoc l b, List.length_cons, Nat.pow_succ, Nat.mul_add, Nat.mul_comm (2 ^ l.length) 2, Nat.mul_assoc, Nat.add_assoc]
/-- Bytes are those of their bools. -/
theorem pk_ub : ∀ b : List Nat, (∀ x ∈ b, x < 256) → pk b.length (ub b) = b
  | [], _ => rfl
  | c :: b, h => by
    have h8 := bn_len 8 c
    have hc : c < 256 := h c (by simp)
    rw [List.length_cons, pk, ub, List.take_append_of_le_length (by omega), List.take_of_length_le (by omega), nb_bn, List.drop_append_of_le_length (by omega), List.drop_of_length_le (by omega), List.nil_append,
      pk_ub b fun x hx => h x (by simp [hx]), Nat.mod_eq_of_lt (by omega)]
/-- Bools, with bytes' rest behind them. -/
theorem pad8 (l : List Bool) (h : l.length ≤ 8) : bn 8 (nb l) = l ++ List.replicate (8 - l.length) false := by
  have := bn_nb (l ++ List.replicate (8 - l.length) false)
  rw [nb_pad] at this
  rw [show (l ++ List.replicate (8 - l.length) false).length = 8 by simp; omega] at this
  exact this
theorem ub_pk : ∀ (n : Nat) (l : List Bool), l.length ≤ 8 * n → ub (pk n l) = l ++ List.replicate (8 * n - l.length) false
  | 0, l, h => by
    obtain rfl : l = [] := List.eq_nil_of_length_eq_zero (by omega)
    rfl
  | n + 1, l, h => by
    rw [pk, ub, ub_pk n _ (by rw [List.length_drop]; omega), pad8 _ (by rw [List.length_take]; omega), List.length_take, List.length_drop]
    rcases Nat.le_total l.length 8 with h8 | h8
    · rw [List.take_of_length_le h8, List.drop_of_length_le h8, List.nil_append, List.append_assoc, List.replicate_append_replicate]
      congr 2
      omega
    · rw [Nat.min_eq_left h8, Nat.sub_self, List.replicate_zero, List.append_nil, ← List.append_assoc, List.take_append_drop]
      congr 2
      omega
/-- What stands at a place. -/
theorem ub_get : ∀ (b : List Nat) (i : Nat), i < 8 * b.length → (ub b).getD i false = (b.getD (i / 8) 0 / 2 ^ (i % 8) % 2 == 1)
  | [], i, h => by simp at h
  | c :: b, i, h => by
    have hbn : ∀ k c j, j < k → (bn k c).getD j false = (c / 2 ^ j % 2 == 1) := by
      intro k
      induction k with
      | zero => intro c j h; omega
      | succ k ih =>
        intro c j h
        cases j with
        | zero => simp [bn]
        | succ j =>
          rw [bn, List.getD_cons_succ, ih (c / 2) j (by omega), Nat.div_div_eq_div_mul, Nat.pow_succ, Nat.mul_comm 2]
    rcases Nat.lt_or_ge i 8 with h8 | h8
    · rw [ub, List.getD_eq_getElem?_getD, List.getElem?_append_left (by rw [bn_len]; exact h8), ← List.getD_eq_getElem?_getD, hbn _ _ _ h8, show i / 8 = 0 by omega, show i % 8 = i by omega, List.getD_cons_zero]
    · rw [ub, List.getD_eq_getElem?_getD, List.getElem?_append_right (by rw [bn_len]; exact h8), ← List.getD_eq_getElem?_getD, bn_len, ub_get b (i - 8) (by rw [List.length_cons] at h; omega), show i / 8 = (i - 8) / 8 + 1 by omega, List.getD_cons_succ, show (i - 8) % 8 = i % 8 by omega]
theorem bit_half (x : Nat) : bit (x % 2 == 1) = x % 2 := by rcases Nat.mod_two_eq_zero_or_one x with h | h <;> rw [h] <;> rfl
/-- A bool more. -/
theorem pk_snoc : ∀ (n : Nat) (l : List Bool) (b : Bool), l.length < 8 * n → pk n (l ++ [b]) = (pk n l).set (l.length / 8) ((pk n l).getD (l.length / 8) 0 + 2 ^ (l.length % 8) * bit b)
  | 0, l, b, h => by omega
  | n + 1, l, b, h => by
    rcases Nat.lt_or_ge l.length 8 with h8 | h8
    · rw [show l.length / 8 = 0 by omega, pk, pk, List.set_cons_zero, List.getD_cons_zero, List.take_of_length_le (by simp; omega), List.take_of_length_le (by omega), List.drop_of_length_le (by simp; omega), List.drop_of_length_le (by omega), nb_snoc, show l.length % 8 = l.length by omega]
    · rw [pk, pk, List.take_append_of_le_length h8, List.drop_append_of_le_length h8, pk_snoc n (l.drop 8) b (by rw [List.length_drop]; omega), List.length_drop, show l.length / 8 = (l.length - 8) / 8 + 1 by omega, List.set_cons_succ, List.getD_cons_succ, show (l.length - 8) % 8 = l.length % 8 by omega]
theorem pk_room : ∀ (n : Nat) (l : List Bool), l.length < 8 * n → (pk n l).getD (l.length / 8) 0 < 2 ^ (l.length % 8)
  | 0, l, h => by omega
  | n + 1, l, h => by
    rcases Nat.lt_or_ge l.length 8 with h8 | h8
    · rw [show l.length / 8 = 0 by omega, pk, List.getD_cons_zero, List.take_of_length_le (by omega), show l.length % 8 = l.length by omega]
      exact nb_lt l
    · rw [pk, show l.length / 8 = (l.length - 8) / 8 + 1 by omega, List.getD_cons_succ, show l.length % 8 = (l.length - 8) % 8 by omega, show l.length - 8 = (l.drop 8).length by rw [List.length_drop]]
      exact pk_room n _ (by rw [List.length_drop]; omega)
theorem pk_nil : ∀ n, pk n [] = List.replicate n 0
  | 0 => rfl
  | n + 1 => by rw [pk, List.take_nil, List.drop_nil, pk_nil n]; rfl
theorem pk_app : ∀ (k m : Nat) (a b : List Bool), a.length = 8 * k → pk (k + m) (a ++ b) = pk k a ++ pk m b
  | 0, m, a, b, h => by
    obtain rfl : a = [] := List.eq_nil_of_length_eq_zero (by omega)
    rw [Nat.zero_add]; rfl
  | k + 1, m, a, b, h => by
    rw [show k + 1 + m = k + m + 1 by omega, pk, pk, List.take_append_of_le_length (by omega), List.drop_append_of_le_length (by omega), pk_app k m (a.drop 8) b (by rw [List.length_drop]; omega), List.cons_append]
theorem cnt_app : ∀ a b : List Bool, cnt (a ++ b) = cnt a + cnt b
  | [], b => by rw [List.nil_append, cnt, Nat.zero_add]
  | x :: a, b => by rw [List.cons_append, cnt, cnt, cnt_app a b, Nat.add_assoc]
theorem cnt_le : ∀ a : List Bool, cnt a ≤ a.length
  | [] => Nat.le_refl _
  | x :: a => by have := cnt_le a; have := bit_lt x; rw [cnt, List.length_cons]; omega
theorem cnt_none : ∀ k, cnt (List.replicate k false) = 0
  | 0 => rfl
  | k + 1 => by rw [List.replicate_succ, cnt, cnt_none k]; rfl
theorem cnt_zero : ∀ a : List Bool, cnt a = 0 → a = List.replicate a.length false
  | [], _ => rfl
  | x :: a, h => by
    rw [cnt] at h
    have hx : x = false := by cases x <;> simp [bit] at h ⊢
    rw [List.length_cons, List.replicate_succ, ← cnt_zero a (by omega), hx]
theorem cnt_pos (a : List Bool) (i : Nat) (h : a.getD i false = true) : 0 < cnt a := by
  induction a generalizing i with
  | nil => simp at h
  | cons x a ih =>
    cases i with
    | zero => simp at h; subst h; simp [cnt, bit]; omega
    | succ i => have := ih i (by simpa using h); rw [cnt]; omega
theorem cnt_pk (n : Nat) (l : List Bool) (h : l.length ≤ 8 * n) : cnt (ub (pk n l)) = cnt l := by
  rw [ub_pk n l h, cnt_app, cnt_none, Nat.add_zero]
theorem cnt_take (l : List Bool) (i : Nat) (h : i < l.length) : cnt (l.take (i + 1)) = cnt (l.take i) + bit (l.getD i false) := by
  rw [List.take_add_one, cnt_app]
  simp [List.getElem?_eq_getElem h, cnt]

theorem pk_pad : ∀ (n k : Nat) (l : List Bool), pk n (l ++ List.replicate k false) = pk n l
  | 0, k, l => rfl
  | n + 1, k, l => by
    rw [pk, pk, List.take_append, List.take_replicate, nb_pad, List.drop_append, List.drop_replicate, pk_pad n]

/-- What reading so many bools of bytes gives: the bools, how many bytes, and what is wrong. -/
def un (b : List Nat) (n : Int) : List Bool × Int × Nat :=
  if n < 0 ∨ 1048576 < n then ([], 0, 6)
  else if b.length < sz n.toNat then ([], 0, 3)
  else if cnt ((ub (b.take (sz n.toNat))).drop n.toNat) ≠ 0 then ([], 0, 140)
  else ((ub b).take n.toNat, sz n.toNat, 0)
theorem ub_take : ∀ (k : Nat) (b : List Nat), ub (b.take k) = (ub b).take (8 * k)
  | 0, b => by simp [ub]
  | k + 1, [] => by simp [ub]
  | k + 1, c :: b => by
    have h8 := bn_len 8 c
    rw [List.take_succ_cons, ub, ub, ub_take k b, List.take_append, h8, List.take_of_length_le (l := bn 8 c) (by omega)]
    congr 2
theorem un_back (l : List Bool) (r : List Nat) (hl : l.length ≤ 1048576) : un (pk (sz l.length) l ++ r) l.length = (l, (sz l.length : Int), 0) := by
  have hp := pk_len (sz l.length) l
  have h8 : l.length ≤ 8 * sz l.length := by unfold sz; omega
  have e := ub_pk (sz l.length) l h8
  have et : (pk (sz l.length) l ++ r).take (sz l.length) = pk (sz l.length) l := by rw [List.take_append_of_le_length (by omega), List.take_of_length_le (by omega)]
  unfold un
  rw [if_neg (by omega), Int.toNat_natCast, if_neg (by rw [List.length_append]; omega), et, e, List.drop_append_of_le_length (Nat.le_refl _), List.drop_length, List.nil_append, cnt_none, if_neg (by simp)]
  have e2 : (ub (pk (sz l.length) l ++ r)).take (8 * sz l.length) = l ++ List.replicate (8 * sz l.length - l.length) false := by rw [← ub_take, et, e]
  have e3 : (ub (pk (sz l.length) l ++ r)).take l.length = l := by
    have := congrArg (List.take l.length) e2
    rw [List.take_take, Nat.min_eq_left h8, List.take_append_of_le_length (Nat.le_refl _), List.take_length] at this
    exact this
  rw [e3]
theorem un_only (b : List Nat) (n : Int) (l : List Bool) (k : Int) (hb : ∀ x ∈ b, x < 256) (h : un b n = (l, k, 0)) : (l.length : Int) = n ∧ k = sz l.length ∧ sz l.length ≤ b.length ∧ pk (sz l.length) l = b.take (sz l.length) := by
  unfold un at h
  by_cases h1 : n < 0 ∨ 1048576 < n
  · rw [if_pos h1] at h; simp at h
  rw [if_neg h1] at h
  by_cases h2 : b.length < sz n.toNat
  · rw [if_pos h2] at h; simp at h
  rw [if_neg h2] at h
  by_cases h3 : cnt ((ub (b.take (sz n.toNat))).drop n.toNat) ≠ 0
  · rw [if_pos h3] at h; simp at h
  rw [if_neg h3] at h
  simp only [Prod.mk.injEq] at h
  obtain ⟨hl, hk, _⟩ := h
  obtain ⟨m, rfl⟩ := Int.eq_ofNat_of_zero_le (a := n) (by omega)
  simp only [Int.toNat_natCast] at *
  have hm : m ≤ 8 * sz m := by unfold sz; omega
  have hll : l.length = m := by rw [← hl, List.length_take, ub_len]; omega
  rw [hll]
  refine ⟨rfl, hk.symm, by omega, ?_⟩
  have hz := cnt_zero _ (by simpa using h3 : cnt ((ub (b.take (sz m))).drop m) = 0)
  have e : ub (b.take (sz m)) = l ++ List.replicate (8 * sz m - m) false := by
    have e1 := List.take_append_drop m (ub (b.take (sz m)))
    rw [hz, ub_take, List.take_take, Nat.min_eq_left hm, hl, List.length_drop, List.length_take, ub_len] at e1
    rw [ub_take, ← e1]
    congr 2
    omega
  have e2 := pk_ub (b.take (sz m)) fun x hx => hb x (List.mem_of_mem_take hx)
  rw [List.length_take, Nat.min_eq_left (by omega), e] at e2
  rw [pk_pad] at e2
  exact e2
/-! ### a bool that is turned -/
theorem xor_two (x y a b : Nat) (hx : x < 2) (hy : y < 2) : (x + 2 * a) ^^^ (y + 2 * b) = (x + y) % 2 + 2 * (a ^^^ b) := by
  have h1 : ((x + 2 * a) ^^^ (y + 2 * b)) / 2 = a ^^^ b := by
    rw [Nat.xor_div_two, show (x + 2 * a) / 2 = a by omega, show (y + 2 * b) / 2 = b by omega]
  have h2 : ((x + 2 * a) ^^^ (y + 2 * b)) % 2 = (x + y) % 2 := by
    have h := @Nat.xor_mod_two_eq_one (x + 2 * a) (y + 2 * b)
    have h3 := Nat.mod_two_eq_zero_or_one ((x + 2 * a) ^^^ (y + 2 * b))
    rcases h3 with h3 | h3
    · have : ¬ (((x + 2 * a) ^^^ (y + 2 * b)) % 2 = 1) := by omega
      rw [h] at this
      omega
    · have := h.1 h3
      omega
  omega
theorem nb_flip : ∀ (l : List Bool) (i : Nat), i < l.length → nb l ^^^ nb (l.set i (!l.getD i false)) = 2 ^ i
  | [], i, h => by simp at h
  | b :: l, 0, h => by
    rw [List.set_cons_zero, List.getD_cons_zero, nb, nb, xor_two _ _ _ _ (bit_lt _) (bit_lt _), Nat.xor_self]
    cases b <;> rfl
  | b :: l, i + 1, h => by
    rw [List.set_cons_succ, List.getD_cons_succ, nb, nb, xor_two _ _ _ _ (bit_lt _) (bit_lt _), nb_flip l i (by simpa using h), Nat.pow_succ]
    omega
theorem pk_flip : ∀ (n : Nat) (l : List Bool) (i j : Nat), i < l.length → j < n → (pk n l).getD j 0 ^^^ (pk n (l.set i (!l.getD i false))).getD j 0 = if j = i / 8 then 2 ^ (i % 8) else 0
  | 0, l, i, j, _, h => by omega
  | n + 1, l, i, j, hi, hj => by
    rw [pk, pk]
    rcases Nat.lt_or_ge i 8 with h8 | h8
    · have e1 : (l.set i (!l.getD i false)).take 8 = (l.take 8).set i (!(l.take 8).getD i false) := by
        rw [List.take_set]
        congr 2
        rw [List.getD_eq_getElem?_getD, List.getD_eq_getElem?_getD, List.getElem?_take_of_lt h8]
      have e2 : (l.set i (!l.getD i false)).drop 8 = l.drop 8 := by rw [List.drop_set_of_lt h8]
      rw [e1, e2, show i / 8 = 0 by omega, show i % 8 = i by omega]
      cases j with
      | zero =>
        rw [List.getD_cons_zero, List.getD_cons_zero, if_pos rfl]
        exact nb_flip _ i (by rw [List.length_take]; omega)
      | succ j => rw [List.getD_cons_succ, List.getD_cons_succ, Nat.xor_self, if_neg (by omega)]
    · have e1 : (l.set i (!l.getD i false)).take 8 = l.take 8 := by rw [List.take_set, List.set_eq_of_length_le (by rw [List.length_take]; omega)]
      have e2 : (l.set i (!l.getD i false)).drop 8 = (l.drop 8).set (i - 8) (!(l.drop 8).getD (i - 8) false) := by
        rw [List.drop_set, if_neg (by omega)]
        congr 2
        rw [List.getD_eq_getElem?_getD, List.getD_eq_getElem?_getD, List.getElem?_drop, show 8 + (i - 8) = i by omega]
      rw [e1, e2]
      cases j with
      | zero => rw [List.getD_cons_zero, List.getD_cons_zero, Nat.xor_self, if_neg (by omega)]
      | succ j =>
        rw [List.getD_cons_succ, List.getD_cons_succ, pk_flip n (l.drop 8) (i - 8) j (by rw [List.length_drop]; omega) (by omega), show (i - 8) % 8 = i % 8 by omega]
        by_cases e : j = (i - 8) / 8
        · rw [if_pos e, if_pos (by omega)]
        · rw [if_neg e, if_neg (by omega)]
end Go.Proofs.Ytdlgnkfeamkfbaa.Mk
