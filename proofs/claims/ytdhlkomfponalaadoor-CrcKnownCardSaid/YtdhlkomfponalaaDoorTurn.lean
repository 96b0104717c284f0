/- Plain arithmetic of turned bits, and the bytes of a sum. No program is spoken of here but what owned bytes are when one of them is stored. -/
import Derived.Test.YtdhlkomfponalaaDoorLinear
import Derived.Laws.OwnMore
namespace Go.Proofs.YtdhlkomfponalaaDoor
open Go.RowKit
set_option linter.unusedVariables false

theorem mul_xor (k a b : Nat) : 2 ^ k * (a ^^^ b) = 2 ^ k * a ^^^ 2 ^ k * b := by
  have := Nat.shiftLeft_xor_distrib (a := a) (b := b) (i := k)
  rw [Nat.shiftLeft_eq, Nat.shiftLeft_eq, Nat.shiftLeft_eq] at this
  rw [Nat.mul_comm, Nat.mul_comm (2 ^ k) a, Nat.mul_comm (2 ^ k) b]
  exact this
theorem num_set : ∀ (l : List Nat) (k d : Nat), k < l.length → Crc.num (l.set k (l.getD k 0 ^^^ d)) = Crc.num l ^^^ 256 ^ k * d
  | [], _, _, h => by simp at h
  | c :: l, 0, d, _ => by
    rw [List.set_cons_zero, List.getD_cons_zero, Crc.num, Crc.num, Nat.pow_zero, Nat.one_mul, Nat.xor_assoc, Nat.xor_comm d, ← Nat.xor_assoc]
  | c :: l, k + 1, d, h => by
    rw [List.set_cons_succ, List.getD_cons_succ, Crc.num, num_set l k d (by simpa using h), Crc.num, show ∀ a b : Nat, 256 * (a ^^^ b) = 256 * a ^^^ 256 * b from mul_xor 8, ← Nat.xor_assoc, Nat.pow_succ, Nat.mul_comm (256 ^ k) 256, Nat.mul_assoc]
theorem turn_on (t i turn : Nat) (h : turn / 2 ^ i % 2 = 1) : 2 ^ t * (turn % 2 ^ (i + 1)) = 2 ^ t * (turn % 2 ^ i) ^^^ 256 ^ ((t + i) / 8) * 2 ^ ((t + i) % 8) := by
  have h1 : turn % 2 ^ (i + 1) = 2 ^ i * 1 ^^^ turn % 2 ^ i := by
    rw [Crc.xor_add i 1 _ (Nat.mod_lt _ (Nat.two_pow_pos i)), Nat.pow_succ, Nat.mod_mul, h, Nat.add_comm]
  have h2 : 256 ^ ((t + i) / 8) * 2 ^ ((t + i) % 8) = 2 ^ t * 2 ^ i := by
    rw [show (256 : Nat) = 2 ^ 8 by rfl, ← Nat.pow_mul, ← Nat.pow_add, ← Nat.pow_add]
    congr 1
    omega
  rw [h1, mul_xor, Nat.mul_one, h2, Nat.xor_comm]
theorem turn_off (t i turn : Nat) (h : turn / 2 ^ i % 2 = 0) : 2 ^ t * (turn % 2 ^ (i + 1)) = 2 ^ t * (turn % 2 ^ i) := by
  rw [Nat.pow_succ, Nat.mod_mul, h, Nat.mul_zero, Nat.add_zero]

/-- The first k bytes of a sum, the lowest one first. -/
def sb (s k : Nat) : List Nat := (List.range k).map fun i => s / 2 ^ (8 * i) % 256
theorem sb_succ (s k : Nat) : sb s (k + 1) = sb s k ++ [s / 2 ^ (8 * k) % 256] := by simp [sb, List.range_succ]
theorem sb_length (s k : Nat) : (sb s k).length = k := by simp [sb]
theorem sb_num (s : Nat) (h : s < 4294967296) : Crc.num (sb s 4) = s := by
  have e : sb s 4 = [s % 256, s / 256 % 256, s / 65536 % 256, s / 16777216 % 256] := by
    simp [sb, List.range_succ]
  have x := fun q t (ht : t < 256) => (Nat.xor_comm t (256 * q)).trans (Crc.xor_add 8 q t ht)
  rw [e, Crc.num, Crc.num, Crc.num, Crc.num, Crc.num, Nat.mul_zero, Nat.xor_zero, x _ _ (by omega), x _ _ (by omega), x _ _ (by omega)]
  omega
theorem num_cons_add (c : Nat) (l : List Nat) (h : c < 256) : Crc.num (c :: l) = 256 * Crc.num l + c :=
  (Nat.xor_comm c (256 * Crc.num l)).trans (Crc.xor_add 8 _ c h)
theorem num_lt : ∀ (l : List Nat), (∀ x ∈ l, x < 256) → Crc.num l < 256 ^ l.length
  | [], _ => by simp [Crc.num]
  | c :: l, h => by
    have h1 := num_lt l fun x hx => h x (by simp [hx])
    have h2 := h c (by simp)
    rw [num_cons_add c l h2, List.length_cons, Nat.pow_succ]
    omega
theorem num_drop (l : List Nat) (j : Nat) (hj : j < l.length) : Crc.num (l.drop j) = l.getD j 0 ^^^ 256 * Crc.num (l.drop (j + 1)) := by
  rw [List.drop_eq_getElem_cons hj, Crc.num]
  simp [List.getElem?_eq_getElem hj]
/-- Bits turned within 32 in a row, in bytes and sum, are told. -/
theorem told (l L : List Nat) (t turn n : Nat) (hn : l.length = n) (hb : ∀ x ∈ l, x < 256) (hL : L.length = n + 4) (ht : t ≤ 8 * n) (hturn : turn < 4294967296)
    (h : Crc.num L = Crc.num (l ++ sb (Crc.upd 0 l) 4) ^^^ 2 ^ t * turn) : (Crc.upd 0 (L.take n) = Crc.num (L.drop n)) ↔ turn = 0 := by
  subst hn
  have hs := Crc.upd_lt 0 l (by omega) hb
  have hlen : (L.take l.length).length = l.length := by simp [hL]
  refine Crc.burst l (L.take l.length) (Crc.num (L.drop l.length)) t turn hlen ?_ ht hturn
  have e1 := Crc.num_append (L.take l.length) (L.drop l.length)
  rw [List.take_append_drop, hlen] at e1
  rw [← e1, h, Crc.num_append, sb_num _ hs]
/-- Owned bytes, one of them stored. -/
theorem Own.stored {w : World} {base g cap n : Nat} {l : List Nat} (h : Own w base (.slice (some ⟨g, 0, none⟩) n cap) l) (hn : l.length = n) (k x : Nat) (hx : x < 256) :
    Own (w.setCell ⟨g, k, none⟩ (.int .u8 (x : Int))) base (.slice (some ⟨g, 0, none⟩) n cap) (l.set k x) := by
  subst hn
  refine ⟨?_, fun y hy => ?_⟩
  · have := (h.1.stored k (.int .u8 (x : Int))).1
    rw [List.length_set]
    unfold vals at this ⊢
    rw [List.map_set]
    exact this
  · rcases List.mem_or_eq_of_mem_set hy with hy | rfl
    · exact h.2 y hy
    · exact hx
theorem Own.form {w : World} {base : Nat} {v : Value} {l : List Nat} (h : Own w base v l) (hn : 0 < l.length) : ∃ g cap, v = .slice (some ⟨g, 0, none⟩) l.length cap ∧ base ≤ g ∧ l.length ≤ cap ∧ cap ≤ maxLen := by
  obtain ⟨⟨h0, h1⟩, hb⟩ := h
  rcases h1 with ⟨_, h2⟩ | ⟨g, cap, cur, rfl, hg, hh, h2, h3, h4, h5⟩
  · omega
  · exact ⟨g, cap, rfl, hg, h2, h3⟩
theorem Own.cell {w : World} {base g cap n : Nat} {l : List Nat} (h : Own w base (.slice (some ⟨g, 0, none⟩) n cap) l) (hn : l.length = n) (k : Nat) (hk : k < n) :
    w.cell? ⟨g, k, none⟩ = some (.int .u8 (l.getD k 0 : Nat)) ∧ l.getD k 0 < 256 := by
  subst hn
  refine ⟨?_, h.2 _ (by simp [List.getElem?_eq_getElem hk])⟩
  rw [h.1.cellAt k (by omega)]
  simp [vals, List.getElem?_eq_getElem hk]
theorem Own.melt {w : World} {base g cap n : Nat} {l : List Nat} (h : Own w base (.slice (some ⟨g, 0, none⟩) n cap) l) (hn : l.length = n) (k : Nat) : w.frozen? ⟨g, k, none⟩ = false := by
  subst hn
  exact h.1.frozenAt k
theorem min2 (a : Nat) (c : Int) (n : Nat) (h : min (a : Int) c = (n : Int)) (w : World) : (Builtin.min_ #[3, 3] 3 #[.int .i64 (a : Int), .int .i64 c]).run Tryd.prog w = .ok (.int .i64 (n : Int)) w := by
  rw [← h]
  simp [Builtin.min_, Builtin.min2]
  repeat' split
  all_goals omega
end Go.Proofs.YtdhlkomfponalaaDoor
