/- Slices of pairs of numbers: how they read; the sum of their products. -/
import Derived.Test.YthlhfnafgjecaaaCheck
namespace Go.Proofs.Ythlhfnafgjecaaa
open Go.RowKit
set_option linter.unusedVariables false

/-- A pair of numbers that fit. -/
def Pok (p : Int × Int) : Prop := (-9223372036854775808 ≤ p.1 ∧ p.1 ≤ 9223372036854775807) ∧ (-9223372036854775808 ≤ p.2 ∧ p.2 ≤ 9223372036854775807)
/-- A slice that reads as pairs; what it reads lies below block B. -/
def RdP (w : World) (B : Nat) (v : Value) (l : List (Int × Int)) : Prop :=
  ∃ a c, v = .slice a l.length c ∧ l.length ≤ c ∧ c ≤ maxLen ∧ (a = none → c = 0) ∧ (∀ p ∈ l, Pok p) ∧
    (0 < l.length → ∃ b off, a = some ⟨b, off, none⟩ ∧ b < B ∧ ∀ i p, l[i]? = some p →
      w.cell? ⟨b, off + i * 2, none⟩ = some (.int .i64 p.1) ∧ w.cell? ⟨b, off + i * 2 + 1, none⟩ = some (.int .i64 p.2))
theorem RdP.at {W w : World} {a : Option Addr} {c n B : Nat} {l : List (Int × Int)} (h : RdP W B (.slice a n c) l) (hb : Below B W w) {i : Nat} (hi : i < l.length) :
    ∃ b off p, a = some ⟨b, off, none⟩ ∧ l[i]? = some p ∧ Pok p ∧ w.cell? ⟨b, off + i * 2, none⟩ = some (.int .i64 p.1) ∧ w.cell? ⟨b, off + i * 2 + 1, none⟩ = some (.int .i64 p.2) := by
  obtain ⟨a', c', e, _, _, _, hok, hc⟩ := h
  injection e with e1 e2 e3
  subst e1
  obtain ⟨b, off, rfl, hlt, hcell⟩ := hc (by omega)
  obtain ⟨h0, h1⟩ := hcell i l[i] (List.getElem?_eq_getElem hi)
  exact ⟨b, off, l[i], rfl, List.getElem?_eq_getElem hi, hok _ (List.getElem_mem hi), (hb.cell (p := ⟨b, _, none⟩) hlt).trans h0, (hb.cell (p := ⟨b, _, none⟩) hlt).trans h1⟩
theorem RdP.below {w w' : World} {B B' : Nat} {v : Value} {l : List (Int × Int)} (h : RdP w B v l) (hb : Below B' w w') (hB : B ≤ B') : RdP w' B v l := by
  obtain ⟨a, c, rfl, h1, h2, h3, h4, h5⟩ := h
  refine ⟨a, c, rfl, h1, h2, h3, h4, fun hp => ?_⟩
  obtain ⟨b, off, rfl, hlt, hc⟩ := h5 hp
  exact ⟨b, off, rfl, hlt, fun i p hi => ⟨(hb.cell (p := ⟨b, _, none⟩) (by simp; omega)).trans (hc i p hi).1, (hb.cell (p := ⟨b, _, none⟩) (by simp; omega)).trans (hc i p hi).2⟩⟩
theorem RdP.more {w : World} {B B' : Nat} {v : Value} {l : List (Int × Int)} (h : RdP w B v l) (hB : B ≤ B') : RdP w B' v l := by
  obtain ⟨a, c, rfl, h1, h2, h3, h4, h5⟩ := h
  refine ⟨a, c, rfl, h1, h2, h3, h4, fun hp => ?_⟩
  obtain ⟨b, off, rfl, hlt, hc⟩ := h5 hp
  exact ⟨b, off, rfl, by omega, hc⟩
theorem RdP.later {w w' : World} {v : Value} {l : List (Int × Int)} (h : RdP w w.heap.size v l) (hb : Below w.heap.size w w') : RdP w' w'.heap.size v l :=
  (h.below hb (Nat.le_refl _)).more hb.size
theorem RdP.len {w : World} {B : Nat} {v : Value} {l : List (Int × Int)} (h : RdP w B v l) : l.length ≤ 9223372036854775807 := by
  obtain ⟨_, c, _, h1, h2, _⟩ := h; unfold maxLen at h2; omega
theorem RdP.ok {w : World} {B : Nat} {v : Value} {l : List (Int × Int)} (h : RdP w B v l) : ∀ p ∈ l, Pok p := by
  obtain ⟨_, _, _, _, _, _, h4, _⟩ := h; exact h4
/-- The sum of the products of the first k. -/
def dotK (l : List (Int × Int)) (k : Nat) : Int := ((l.take k).map fun p => p.1 * p.2).sum
def dot (l : List (Int × Int)) : Int := (l.map fun p => p.1 * p.2).sum
theorem dotK_zero (l : List (Int × Int)) : dotK l 0 = 0 := by simp [dotK]
theorem dotK_succ (l : List (Int × Int)) (k : Nat) (p : Int × Int) (h : l[k]? = some p) : dotK l (k + 1) = dotK l k + p.1 * p.2 := by
  have hk : k < l.length := (List.getElem?_eq_some_iff.1 h).1
  unfold dotK
  rw [List.take_succ_eq_append_getElem hk, List.map_append, List.sum_append, (List.getElem?_eq_some_iff.1 h).2]
  simp
theorem dotK_all (l : List (Int × Int)) (k : Nat) (h : l.length ≤ k) : dotK l k = dot l := by unfold dotK dot; rw [List.take_of_length_le h]
theorem dot_bound : ∀ l : List (Int × Int), (∀ p ∈ l, Pok p) → -(85070591730234615865843651857942052864 * (l.length : Int)) ≤ dot l ∧ dot l ≤ 85070591730234615865843651857942052864 * (l.length : Int)
  | [], _ => by simp [dot]
  | p :: l, h => by
    have h1 := dot_bound l (fun q hq => h q (List.mem_cons_of_mem _ hq))
    have hp := h p (List.mem_cons_self ..)
    have h2 := mul_sg p.1 p.2 hp.1.1 hp.1.2 hp.2.1 hp.2.2
    simp only [dot, List.map_cons, List.sum_cons, List.length_cons] at h1 ⊢
    omega
theorem dot_sg (l : List (Int × Int)) (h : ∀ p ∈ l, Pok p) (hl : l.length ≤ 9223372036854775807) : Wd.Sg (dot l) := by
  have := dot_bound l h
  unfold Wd.Sg
  omega

/-- A variable of three cells, written anew. -/
theorem V3.put {W w : World} {g : Nat} {x y z : Value} (h : V3 W g x y z w) (hg : W.heap.size ≤ g) (p q r : Value) : V3 W g p q r (((w.setCell ⟨g, 0, none⟩ p).setCell ⟨g, 1, none⟩ q).setCell ⟨g, 2, none⟩ r) := by
  refine ⟨((h.1.setCell (by simpa using hg) _).setCell (by simpa using hg) _).setCell (by simpa using hg) _, ?_⟩
  rw [heap_setCell_same _ _ _ _ _ _ (heap_setCell_same _ _ _ _ _ _ (heap_setCell_same _ _ _ _ _ _ h.2))]
  rfl
theorem V3.lie {W w : World} {g : Nat} {x y z : Value} (h : V3 W g x y z w) :
    (w.cell? ⟨g, 0, none⟩ = some x ∧ w.cell? ⟨g, 1, none⟩ = some y ∧ w.cell? ⟨g, 2, none⟩ = some z) ∧ w.frozen? ⟨g, 0, none⟩ = false ∧ w.frozen? ⟨g, 1, none⟩ = false ∧ w.frozen? ⟨g, 2, none⟩ = false :=
  ⟨h.keep.2, frozen_of_row _ _ _ _ _ h.2, frozen_of_row _ _ _ _ _ h.2, frozen_of_row _ _ _ _ _ h.2⟩
end Go.Proofs.Ythlhfnafgjecaaa
