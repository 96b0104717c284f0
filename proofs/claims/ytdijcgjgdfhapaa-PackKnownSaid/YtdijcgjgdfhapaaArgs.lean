/- Rows of pieces and of asks that came in; what pieces make of a writer, one behind the other. -/
import Derived.Test.YtdijcgjgdfhapaaWork
namespace Go.Proofs.Ytdijcgjgdfhapaa
open Go.RowKit
set_option linter.unusedVariables false

/-- A piece: which, a number, a text. -/
structure Pc where
  k : Int
  n : Int
  s : ByteArray
def Pc.ok (p : Pc) : Prop := (-9223372036854775808 ≤ p.k ∧ p.k ≤ 9223372036854775807) ∧ (0 ≤ p.n ∧ p.n ≤ 18446744073709551615) ∧ p.s.size ≤ 9223372036854775807
def Pc.bytes (p : Pc) : List Nat := pieceL p.k p.n p.s
def Pc.val (p : Pc) : Value := .agg #[.int .i64 p.k, .int .u64 p.n, .string p.s]
/-- A slice that reads as pieces; what it reads lies below block B. -/
def RdPc (w : World) (B : Nat) (v : Value) (l : List Pc) : Prop :=
  ∃ a c, v = .slice a l.length c ∧ l.length ≤ c ∧ c ≤ maxLen ∧ (∀ p ∈ l, p.ok) ∧
    (0 < l.length → ∃ b off, a = some ⟨b, off, none⟩ ∧ b < B ∧ ∀ i p, l[i]? = some p →
      w.cell? ⟨b, off + i * 3, none⟩ = some (.int .i64 p.k) ∧ w.cell? ⟨b, off + i * 3 + 1, none⟩ = some (.int .u64 p.n) ∧ w.cell? ⟨b, off + i * 3 + 2, none⟩ = some (.string p.s))
/-- An ask: which piece, a number. -/
structure Ak where
  k : Int
  n : Int
def Ak.ok (p : Ak) : Prop := (-9223372036854775808 ≤ p.k ∧ p.k ≤ 9223372036854775807) ∧ (-9223372036854775808 ≤ p.n ∧ p.n ≤ 9223372036854775807)
def RdAk (w : World) (B : Nat) (v : Value) (l : List Ak) : Prop :=
  ∃ a c, v = .slice a l.length c ∧ l.length ≤ c ∧ c ≤ maxLen ∧ (∀ p ∈ l, p.ok) ∧
    (0 < l.length → ∃ b off, a = some ⟨b, off, none⟩ ∧ b < B ∧ ∀ i p, l[i]? = some p →
      w.cell? ⟨b, off + i * 2, none⟩ = some (.int .i64 p.k) ∧ w.cell? ⟨b, off + i * 2 + 1, none⟩ = some (.int .i64 p.n))
/-- The cells of a piece, in a later world. -/
theorem RdPc.at {W w : World} {a : Option Addr} {c n : Nat} {l : List Pc} (h : RdPc W W.heap.size (.slice a n c) l) (hb : Below W.heap.size W w) {i : Nat} (hi : i < l.length) :
    ∃ b off p, a = some ⟨b, off, none⟩ ∧ l[i]? = some p ∧ p.ok ∧ w.cell? ⟨b, off + i * 3, none⟩ = some (.int .i64 p.k) ∧ w.cell? ⟨b, off + i * 3 + 1, none⟩ = some (.int .u64 p.n) ∧ w.cell? ⟨b, off + i * 3 + 2, none⟩ = some (.string p.s) := by
  obtain ⟨a', c', e, _, _, hok, hc⟩ := h
  injection e with e1 e2 e3
  subst e1
  obtain ⟨b, off, rfl, hlt, hcell⟩ := hc (by omega)
  obtain ⟨h0, h1, h2⟩ := hcell i l[i] (List.getElem?_eq_getElem hi)
  exact ⟨b, off, l[i], rfl, List.getElem?_eq_getElem hi, hok _ (List.getElem_mem hi), (hb.cell (p := ⟨b, _, none⟩) hlt).trans h0, (hb.cell (p := ⟨b, _, none⟩) hlt).trans h1, (hb.cell (p := ⟨b, _, none⟩) hlt).trans h2⟩
theorem RdAk.at {W w : World} {a : Option Addr} {c n : Nat} {l : List Ak} (h : RdAk W W.heap.size (.slice a n c) l) (hb : Below W.heap.size W w) {i : Nat} (hi : i < l.length) :
    ∃ b off p, a = some ⟨b, off, none⟩ ∧ l[i]? = some p ∧ p.ok ∧ w.cell? ⟨b, off + i * 2, none⟩ = some (.int .i64 p.k) ∧ w.cell? ⟨b, off + i * 2 + 1, none⟩ = some (.int .i64 p.n) := by
  obtain ⟨a', c', e, _, _, hok, hc⟩ := h
  injection e with e1 e2 e3
  subst e1
  obtain ⟨b, off, rfl, hlt, hcell⟩ := hc (by omega)
  obtain ⟨h0, h1⟩ := hcell i l[i] (List.getElem?_eq_getElem hi)
  exact ⟨b, off, l[i], rfl, List.getElem?_eq_getElem hi, hok _ (List.getElem_mem hi), (hb.cell (p := ⟨b, _, none⟩) hlt).trans h0, (hb.cell (p := ⟨b, _, none⟩) hlt).trans h1⟩
theorem RdPc.len {w : World} {B : Nat} {v : Value} {l : List Pc} (h : RdPc w B v l) : l.length ≤ 9223372036854775807 := by
  obtain ⟨_, c, _, h1, h2, _⟩ := h; unfold maxLen at h2; omega
theorem RdAk.len {w : World} {B : Nat} {v : Value} {l : List Ak} (h : RdAk w B v l) : l.length ≤ 9223372036854775807 := by
  obtain ⟨_, c, _, h1, h2, _⟩ := h; unfold maxLen at h2; omega

/-- A writer's state behind k pieces. -/
def stW (m : Nat) (l : List Pc) (k : Nat) : Bool × List Nat := (l.take k).foldl (fun s p => puts m s.1 s.2 p.bytes) (false, [])
theorem stW_zero (m : Nat) (l : List Pc) : stW m l 0 = (false, []) := by simp [stW]
theorem stW_succ (m : Nat) (l : List Pc) (k : Nat) (p : Pc) (h : l[k]? = some p) : stW m l (k + 1) = puts m (stW m l k).1 (stW m l k).2 p.bytes := by
  have hk : k < l.length := (List.getElem?_eq_some_iff.1 h).1
  unfold stW
  rw [List.take_succ_eq_append_getElem hk, List.foldl_append, (List.getElem?_eq_some_iff.1 h).2]
  rfl
theorem puts_len (m : Nat) (f : Bool) (l r : List Nat) : (puts m f l r).2.length ≤ l.length + r.length := by
  unfold puts
  split <;> simp
theorem stW_len (m : Nat) (l : List Pc) : ∀ k, (stW m l k).2.length ≤ 50 * k
  | 0 => by simp [stW]
  | k + 1 => by
    have h1 := stW_len m l k
    rcases Nat.lt_or_ge k l.length with hk | hk
    · rw [stW_succ m l k l[k] (List.getElem?_eq_getElem hk)]
      have h2 := puts_len m (stW m l k).1 (stW m l k).2 (l[k]).bytes
      have h3 := pieceL_len (l[k]).k (l[k]).n (l[k]).s
      unfold Pc.bytes at *
      omega
    · have : stW m l (k + 1) = stW m l k := by
        unfold stW
        rw [List.take_of_length_le (by omega), List.take_of_length_le (by omega)]
      rw [this]
      omega
theorem split40 (k n : Nat) (h : ¬ (k < n ∧ k < 40)) : ¬ k < n ∨ (k < n ∧ ¬ k < 40) := by omega
end Go.Proofs.Ytdijcgjgdfhapaa
