/- Plain arithmetic of the register of CRC-32C: a step with the bit 0 as a function of numbers that goes along with exclusive or; bytes that are taken in; what turned bits make. No program is spoken of here. -/
import Derived.Lib.BitFns
import Derived.Laws.BitsAllLaws
namespace Go.Proofs.Ytdlgnkfeamkfbaa.Crc
open Go
set_option linter.unusedVariables false
set_option linter.unusedSimpArgs false

/-- A step with the bit 0. -/
def z (n : Nat) : Nat := n / 2 ^^^ (if n % 2 = 1 then 2197175160 else 0)
/-- k steps with the bit 0. -/
def zs : Nat → Nat → Nat
  | 0, n => n
  | k + 1, n => zs k (z n)

theorem xor_half (a b : Nat) : (a ^^^ b) / 2 = a / 2 ^^^ b / 2 := by
  have := Nat.shiftRight_xor_distrib (a := a) (b := b) (i := 1)
  simpa [Nat.shiftRight_succ] using this
theorem xor_odd (a b : Nat) : (a ^^^ b) % 2 = (a % 2 + b % 2) % 2 := by
  have h := Nat.xor_mod_two_pow (a := a) (b := b) (n := 1)
  rw [Nat.pow_one] at h
  rw [h]
  rcases Nat.mod_two_eq_zero_or_one a with ha | ha <;> rcases Nat.mod_two_eq_zero_or_one b with hb | hb <;> rw [ha, hb] <;> rfl
theorem xor4 (a b c d : Nat) : (a ^^^ b) ^^^ (c ^^^ d) = (a ^^^ c) ^^^ (b ^^^ d) := by
  rw [Nat.xor_assoc, Nat.xor_assoc, ← Nat.xor_assoc b c d, Nat.xor_comm b c, Nat.xor_assoc c b d]
theorem z_xor (a b : Nat) : z (a ^^^ b) = z a ^^^ z b := by
  unfold z
  rw [xor_half, xor_odd, xor4]
  congr 1
  rcases Nat.mod_two_eq_zero_or_one a with ha | ha <;> rcases Nat.mod_two_eq_zero_or_one b with hb | hb <;> rw [ha, hb] <;> simp
theorem z_two (m : Nat) : z (2 * m) = m := by
  unfold z
  rw [if_neg (by omega), Nat.xor_zero]
  omega
theorem z_zero : z 0 = 0 := rfl
theorem zs_xor : ∀ k a b, zs k (a ^^^ b) = zs k a ^^^ zs k b
  | 0, a, b => rfl
  | k + 1, a, b => by rw [zs, zs, zs, z_xor, zs_xor k]
theorem zs_zero : ∀ k, zs k 0 = 0
  | 0 => rfl
  | k + 1 => by rw [zs, z_zero, zs_zero k]
theorem zs_add : ∀ k j n, zs (k + j) n = zs j (zs k n)
  | 0, j, n => by rw [Nat.zero_add, zs]
  | k + 1, j, n => by rw [Nat.succ_add, zs, zs, zs_add k j]
theorem zs_shift : ∀ k m, zs k (2 ^ k * m) = m
  | 0, m => by rw [zs, Nat.pow_zero, Nat.one_mul]
  | k + 1, m => by rw [zs, Nat.pow_succ, Nat.mul_comm (2 ^ k) 2, Nat.mul_assoc, z_two, zs_shift k]
theorem z_lt (n : Nat) (h : n < 4294967296) : z n < 4294967296 := by
  unfold z
  refine Nat.xor_lt_two_pow (n := 32) (by omega) ?_
  split <;> omega
theorem zs_lt : ∀ k n, n < 4294967296 → zs k n < 4294967296
  | 0, n, h => h
  | k + 1, n, h => zs_lt k _ (z_lt n h)
theorem xor_zero_iff (a b : Nat) (h : a ^^^ b = 0) : a = b := by
  have : a ^^^ b ^^^ b = b := by rw [h, Nat.zero_xor]
  rwa [Nat.xor_assoc, Nat.xor_self, Nat.xor_zero] at this
theorem z_none (n : Nat) (h : n < 4294967296) (hz : z n = 0) : n = 0 := by
  unfold z at hz
  split at hz
  · have := xor_zero_iff _ _ hz
    omega
  · have := xor_zero_iff _ _ hz
    omega
theorem zs_none : ∀ k n, n < 4294967296 → zs k n = 0 → n = 0
  | 0, n, _, hz => hz
  | k + 1, n, h, hz => z_none n h (zs_none k _ (z_lt n h) hz)

/-- What lies above is joined by exclusive or as by a sum. -/
theorem xor_add (k q t : Nat) (ht : t < 2 ^ k) : 2 ^ k * q ^^^ t = 2 ^ k * q + t := by
  apply Nat.eq_of_testBit_eq
  intro j
  rw [Nat.testBit_xor, Nat.testBit_two_pow_mul_add q ht, Nat.testBit_two_pow_mul]
  split
  · rename_i h
    simp [show ¬ k ≤ j by omega]
  · rename_i h
    rw [Nat.testBit_lt_two_pow (Nat.lt_of_lt_of_le ht (Nat.pow_le_pow_right (by omega) (by omega)))]
    simp [show k ≤ j by omega]
theorem split_at (k n : Nat) : 2 ^ k * (n / 2 ^ k) ^^^ n % 2 ^ k = n := by
  rw [xor_add k _ _ (Nat.mod_lt _ (Nat.two_pow_pos k)), Nat.div_add_mod]

/-- Four steps at once, by what they make of the lowest four bits. -/
theorem zs_half (n : Nat) : n / 16 ^^^ zs 4 (n % 16) = zs 4 n := by
  conv => rhs; rw [← split_at 4 n, zs_xor, zs_shift]
theorem zs_byte (n : Nat) : zs 4 n / 16 ^^^ zs 4 (zs 4 n % 16) = zs 8 n := by
  rw [zs_half, ← zs_add 4 4]
/-- The table. -/
def tab : List Nat := [0, 274646895, 549293790, 820201905, 1098587580, 1361435347, 1640403810, 1905808397, 2197175160, 2460548119, 2722870694, 2987750089, 3280807620, 3553878443, 3811616794, 4084100981]
theorem tab_is : ∀ i : Fin 16, tab.getD i.val 0 = zs 4 i.val := by decide

/-- A register takes bytes in. -/
def take (r : Nat) : List Nat → Nat
  | [] => r
  | c :: l => take (zs 8 (r ^^^ c)) l
/-- Bytes as a number, the lowest first. -/
def num : List Nat → Nat
  | [] => 0
  | c :: l => c ^^^ 256 * num l
theorem take_num : ∀ l r, take r l = zs (8 * l.length) (r ^^^ num l)
  | [], r => by simp [take, num, zs]
  | c :: l, r => by
    rw [take, take_num l, num, List.length_cons, Nat.mul_add, Nat.add_comm, zs_add, ← Nat.xor_assoc, zs_xor 8 (r ^^^ c), zs_shift 8]
theorem take_append : ∀ l r m, take r (l ++ m) = take (take r l) m
  | [], r, m => rfl
  | c :: l, r, m => by rw [List.cons_append, take, take, take_append l]
theorem take_snoc (l : List Nat) (r c : Nat) : take r (l ++ [c]) = zs 8 (take r l ^^^ c) := by rw [take_append]; rfl
theorem take_lt : ∀ l r, r < 4294967296 → (∀ x ∈ l, x < 256) → take r l < 4294967296
  | [], r, h, _ => h
  | c :: l, r, h, hb => take_lt l _ (zs_lt 8 _ (Nat.xor_lt_two_pow (n := 32) h (by have := hb c (by simp); omega))) (fun x hx => hb x (by simp [hx]))
/-- What is added to the register goes along. -/
theorem take_xor (a r : Nat) (l : List Nat) : take (a ^^^ r) l = zs (8 * l.length) a ^^^ take r l := by
  rw [take_num, take_num, Nat.xor_assoc, zs_xor]

/-- All bits turned. -/
def flip (n : Nat) : Nat := n ^^^ 4294967295
theorem flip_lt (n : Nat) (h : n < 4294967296) : flip n < 4294967296 := Nat.xor_lt_two_pow (n := 32) h (by omega)
theorem flip_flip (n : Nat) : flip (flip n) = n := by unfold flip; rw [Nat.xor_assoc, Nat.xor_self, Nat.xor_zero]
theorem flip_sub (n : Nat) (h : n < 4294967296) : flip n = 4294967295 - n := by
  have h1 := BitVec.xor_allOnes (x := BitVec.ofNat 32 n)
  have h2 := congrArg BitVec.toNat h1
  rw [BitVec.toNat_not, BitVec.toNat_xor, BitVec.toNat_ofNat, BitVec.toNat_allOnes] at h2
  unfold flip
  rw [show n % 2 ^ 32 = n by omega] at h2
  simpa using h2
/-- To go on from a sum. -/
def upd (s : Nat) (l : List Nat) : Nat := flip (take (flip s) l)
theorem upd_lt (s : Nat) (l : List Nat) (h : s < 4294967296) (hb : ∀ x ∈ l, x < 256) : upd s l < 4294967296 := flip_lt _ (take_lt _ _ (flip_lt _ h) hb)
theorem upd_nil (s : Nat) : upd s [] = s := flip_flip s
theorem upd_append (s : Nat) (l m : List Nat) : upd (upd s l) m = upd s (l ++ m) := by unfold upd; rw [flip_flip, take_append]
theorem upd_join (l m : List Nat) : zs (8 * m.length) (upd 0 l) ^^^ upd 0 m = upd 0 (l ++ m) := by
  unfold upd
  rw [take_append, show take (flip 0) l = flip (take (flip 0) l) ^^^ flip 0 by unfold flip; rw [Nat.zero_xor, Nat.xor_assoc, Nat.xor_self, Nat.xor_zero], take_xor]
  generalize take (flip 0) m = x
  have e : flip (flip (take (flip 0) l) ^^^ flip 0) = take (flip 0) l ^^^ flip 0 := by
    unfold flip; rw [Nat.zero_xor, Nat.xor_assoc, Nat.xor_self, Nat.xor_zero]
  unfold flip
  rw [Nat.zero_xor]
  simp only [Nat.xor_assoc, Nat.xor_self, Nat.xor_zero]

/-- Bits added, byte by byte. -/
def adds : List Nat → List Nat → List Nat → List Nat
  | a :: l, b :: m, c :: n => (a ^^^ b ^^^ c) :: adds l m n
  | _, _, _ => []
theorem take_adds : ∀ l m n r s t, l.length = m.length → m.length = n.length → take (r ^^^ s ^^^ t) (adds l m n) = take r l ^^^ take s m ^^^ take t n
  | [], [], [], r, s, t, _, _ => rfl
  | a :: l, b :: m, c :: n, r, s, t, h1, h2 => by
    rw [adds, take, take, take, take, ← take_adds l m n _ _ _ (by simpa using h1) (by simpa using h2), ← zs_xor, ← zs_xor]
    congr 2
    rw [xor4 (r ^^^ s) t (a ^^^ b) c, xor4 r s a b]
  | [], _ :: _, _, _, _, _, h, _ => by simp at h
  | _ :: _, [], _, _, _, _, h, _ => by simp at h
  | [], [], _ :: _, _, _, _, _, h => by simp at h
  | _ :: _, _ :: _, [], _, _, _, _, h => by simp at h
theorem upd_adds (l m n : List Nat) (h1 : l.length = m.length) (h2 : m.length = n.length) : upd 0 (adds l m n) = upd 0 l ^^^ upd 0 m ^^^ upd 0 n := by
  unfold upd
  have e : flip 0 = flip 0 ^^^ flip 0 ^^^ flip 0 := by rw [Nat.xor_self, Nat.zero_xor]
  conv => lhs; rw [e, take_adds l m n _ _ _ h1 h2]
  unfold flip
  rw [xor4 (take (0 ^^^ 4294967295) l), ← xor4 (take (0 ^^^ 4294967295) l ^^^ take (0 ^^^ 4294967295) m)]
  simp only [Nat.xor_self, Nat.zero_xor, Nat.xor_zero]

/-- The bits of a byte, one by one. -/
theorem step_bit (r c k : Nat) : zs (k + 1) (r ^^^ c) = zs k (z (r ^^^ c % 2) ^^^ c / 2) := by
  rw [zs]
  congr 1
  conv => lhs; rw [← split_at 1 c, ← Nat.xor_assoc, Nat.xor_assoc r, Nat.xor_comm (2 ^ 1 * _), ← Nat.xor_assoc, z_xor, Nat.pow_one, z_two]

/-- What bits make, one by one. -/
def onBits (m r : Nat) : Nat → Nat
  | 0 => 0
  | k + 1 => if r / 2 ^ k % 2 = 1 then onBits m r k ^^^ zs m (2 ^ k) else onBits m r k
theorem onBits_is (m r : Nat) : ∀ k, onBits m r k = zs m (r % 2 ^ k)
  | 0 => by rw [onBits, Nat.pow_zero, Nat.mod_one, zs_zero]
  | k + 1 => by
    have h : r % 2 ^ (k + 1) = 2 ^ k * (r / 2 ^ k % 2) + r % 2 ^ k := by
      rw [Nat.pow_succ, Nat.mod_mul, Nat.add_comm]
    rw [onBits, onBits_is m r k]
    split
    · rename_i h1
      have e := xor_add k 1 _ (Nat.mod_lt r (Nat.two_pow_pos k))
      rw [Nat.mul_one] at e
      rw [h, h1, Nat.mul_one, ← zs_xor, Nat.xor_comm, e]
    · rename_i h1
      rw [h, show r / 2 ^ k % 2 = 0 by omega, Nat.mul_zero, Nat.zero_add]
theorem onBits_all (m r : Nat) (h : r < 4294967296) : onBits m r 32 = zs m r := by
  rw [onBits_is, Nat.mod_eq_of_lt (by simpa using h)]
theorem onBits_lt (m r k : Nat) : onBits m r k < 4294967296 ∨ 32 < k := by
  rcases Nat.lt_or_ge 32 k with h | h
  · exact .inr h
  · left
    rw [onBits_is]
    refine zs_lt _ _ (Nat.lt_of_lt_of_le (Nat.mod_lt _ (Nat.two_pow_pos k)) ?_)
    exact Nat.pow_le_pow_right (n := 2) (by omega) h

/-- Turned bits: n bytes and a sum behind them that fits; bits are turned, from place s on; the sum fits just if none is. -/
theorem num_append : ∀ l m, num (l ++ m) = num l ^^^ 2 ^ (8 * l.length) * num m
  | [], m => by simp [num]
  | c :: l, m => by
    rw [List.cons_append, num, num_append l m, num, List.length_cons, Nat.mul_add, Nat.pow_add]
    have e : 256 * (num l ^^^ 2 ^ (8 * l.length) * num m) = 256 * num l ^^^ 256 * (2 ^ (8 * l.length) * num m) := by
      have := Nat.shiftLeft_xor_distrib (a := num l) (b := 2 ^ (8 * l.length) * num m) (i := 8)
      rw [Nat.shiftLeft_eq, Nat.shiftLeft_eq, Nat.shiftLeft_eq] at this
      rw [Nat.mul_comm, Nat.mul_comm 256 (num l), Nat.mul_comm 256 (2 ^ _ * _)]
      exact this
    rw [e, ← Nat.xor_assoc]
    congr 1
    rw [Nat.mul_comm (2 ^ (8 * l.length)) (2 ^ (8 * 1)), Nat.mul_assoc]
/-- A sum fits: the register behind bytes and sum is all ones. -/
theorem fits_iff (l : List Nat) (s : Nat) : upd 0 l = s ↔ zs (8 * l.length) (4294967295 ^^^ (num l ^^^ 2 ^ (8 * l.length) * s)) = 4294967295 := by
  unfold upd
  rw [take_num, ← Nat.xor_assoc, zs_xor _ (4294967295 ^^^ num l), zs_shift]
  unfold flip
  rw [Nat.zero_xor]
  generalize zs (8 * l.length) (4294967295 ^^^ num l) = x
  constructor
  · rintro rfl
    rw [← Nat.xor_assoc, Nat.xor_self, Nat.zero_xor]
  · intro h
    have : x ^^^ (x ^^^ s) = x ^^^ 4294967295 := by rw [h]
    rw [← this, ← Nat.xor_assoc, Nat.xor_self, Nat.zero_xor]
theorem burst (l l' : List Nat) (s t turn : Nat) (hl : l'.length = l.length) (h : num l' ^^^ 2 ^ (8 * l.length) * s = num l ^^^ 2 ^ (8 * l.length) * upd 0 l ^^^ 2 ^ t * turn) (ht : t ≤ 8 * l.length) (hturn : turn < 4294967296) :
    upd 0 l' = s ↔ turn = 0 := by
  rw [fits_iff, hl, h]
  have h0 := (fits_iff l (upd 0 l)).1 rfl
  rw [← Nat.xor_assoc, zs_xor, h0]
  obtain ⟨d, hd⟩ : ∃ d, 8 * l.length = t + d := ⟨_, (Nat.add_sub_cancel' ht).symm⟩
  rw [hd, zs_add, zs_shift]
  constructor
  · intro h
    refine zs_none d turn hturn ?_
    have : 4294967295 ^^^ (4294967295 ^^^ zs d turn) = 4294967295 ^^^ 4294967295 := by rw [h]
    rwa [← Nat.xor_assoc, Nat.xor_self, Nat.zero_xor] at this
  · rintro rfl
    rw [zs_zero, Nat.xor_zero]
end Go.Proofs.Ytdlgnkfeamkfbaa.Crc
