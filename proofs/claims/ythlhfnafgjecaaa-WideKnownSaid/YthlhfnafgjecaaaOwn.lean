/- Slices of pairs that a call owns; append; cut slices. -/
import Derived.Test.YthlhfnafgjecaaaPairs
import Derived.Maps.AppendAt
import Derived.Deep.AppendLies
import Derived.Laws.AppendOwnNone
import Derived.Test.YthlhfnafgjecaaaWorks
namespace Go.Proofs.Ythlhfnafgjecaaa
open Go.RowKit
set_option linter.unusedVariables false

theorem add_plain (b off k : Nat) : (⟨b, off, none⟩ : Addr).add k = ⟨b, off + k, none⟩ := by unfold Addr.add; split <;> simp_all
theorem cells2_append (l r : List (Int × Int)) : cells2 (l ++ r) = cells2 l ++ cells2 r := by
  induction l with
  | nil => rfl
  | cons p l ih => simp [cells2, ih]
theorem cells2_one (l : List (Int × Int)) : ∀ u ∈ cells2 l, u.oneCell' = true := by
  induction l with
  | nil => simp [cells2]
  | cons p l ih =>
    intro u hu
    simp only [cells2, List.mem_cons] at hu
    rcases hu with rfl | rfl | hu
    · rfl
    · rfl
    · exact ih u hu
theorem cells2_at (l : List (Int × Int)) (j : Nat) (u : Value) (h : (cells2 l)[j]? = some u) : ∃ i p, l[i]? = some p ∧ ((j = i * 2 ∧ u = .int .i64 p.1) ∨ (j = i * 2 + 1 ∧ u = .int .i64 p.2)) := by
  have hj : j < (cells2 l).length := (List.getElem?_eq_some_iff.1 h).1
  rw [cells2_len] at hj
  have hi : j / 2 < l.length := by omega
  have hg := cells2_get l (j / 2) l[j / 2] (List.getElem?_eq_getElem hi)
  refine ⟨j / 2, l[j / 2], List.getElem?_eq_getElem hi, ?_⟩
  rcases (show j = j / 2 * 2 ∨ j = j / 2 * 2 + 1 by omega) with e | e
  · have h1 := hg.1
    rw [← e, h] at h1
    exact .inl ⟨e, by simpa using h1⟩
  · have h1 := hg.2
    rw [← e, h] at h1
    exact .inr ⟨e, by simpa using h1⟩
/-- A slice that a call owns, from block 'base' on; it reads as l. -/
def OwnP (w : World) (base : Nat) (v : Value) (l : List (Int × Int)) : Prop := w.ownsRow base 28 2 v l.length (cells2 l) ∧ ∀ p ∈ l, Pok p
theorem OwnP.rd {w : World} {base : Nat} {v : Value} {l : List (Int × Int)} (h : OwnP w base v l) : RdP w w.heap.size v l := by
  obtain ⟨⟨h0, h1⟩, hb⟩ := h
  rcases h1 with ⟨rfl, hn⟩ | ⟨g, cap, cur, rfl, hg, hh, h2, h3, h4, h5⟩
  · obtain rfl : l = [] := List.eq_nil_of_length_eq_zero hn
    exact ⟨none, 0, rfl, by simp, by simp, by simp, by simp, by simp⟩
  · refine ⟨_, cap, rfl, h2, h3, by simp, hb, fun hp => ⟨g, 0, rfl, ?_, fun i p hi => ?_⟩⟩
    · rcases Nat.lt_or_ge g w.heap.size with hlt | hge
      · exact hlt
      · rw [Array.getElem?_eq_none hge] at hh; cases hh
    · have hc := cells2_get l i p hi
      have e := fun j u hu => World.ownsRow.cells (w := w) (base := base) (e := 28) (size := 2) (v := .slice (some ⟨g, 0, none⟩) l.length cap) (n := l.length) (xs := cells2 l) ⟨h0, .inr ⟨g, cap, cur, rfl, hg, hh, h2, h3, h4, h5⟩⟩ (g := g) rfl j u hu
      have e1 := e _ _ hc.1
      have e2 := e _ _ hc.2
      rw [add_plain] at e1 e2
      refine ⟨e1, ?_⟩
      rw [show 0 + i * 2 + 1 = 0 + (i * 2 + 1) by omega]
      exact e2
theorem OwnP.later {w w' : World} {base : Nat} {v : Value} {l : List (Int × Int)} (h : OwnP w base v l) (hb : Below w.heap.size w w') : OwnP w' base v l := by
  obtain ⟨⟨h0, h1⟩, hbt⟩ := h
  refine ⟨⟨h0, ?_⟩, hbt⟩
  rcases h1 with h1 | ⟨g, cap, cur, rfl, hg, hh, r⟩
  · exact .inl h1
  · have hlt : g < w.heap.size := by
      rcases Nat.lt_or_ge g w.heap.size with hlt | hge
      · exact hlt
      · rw [Array.getElem?_eq_none hge] at hh; cases hh
    exact .inr ⟨g, cap, cur, rfl, hg, (hb.block g hlt).trans hh, r⟩
/-- A list of no pairs that was made. -/
theorem OwnP.made (w : World) : OwnP (w.alloc (.cells #[] 28)) w.heap.size (.slice (some ⟨w.heap.size, 0, none⟩) 0 0) [] :=
  ⟨World.ownsRow_made w #[] 0 (Nat.le_refl _) (by simp [maxLen]) rfl, by simp⟩
theorem pair_info : (Try.prog.info? 28).map (fun i => (i.zero, i.size, i.bytes)) = some (some (.agg #[.int .i64 0, .int .i64 0]), 2, 16) := by kernel_rfl
theorem pair_parts : ∃ i, Try.prog.info? 28 = some i ∧ i.zero = some (.agg #[.int .i64 0, .int .i64 0]) ∧ i.size = 2 ∧ i.bytes = 16 := by
  have h := pair_info
  cases hi : Try.prog.info? 28 with
  | none => rw [hi] at h; cases h
  | some i =>
    rw [hi] at h
    simp at h
    exact ⟨i, rfl, h.1, h.2.1, h.2.2⟩
/-- append onto what is owned, of whatever reads as a list. -/
theorem run_appP (w : World) (ty : TypeId) (base : Nat) (v : Value) (l : List (Int × Int)) (hown : OwnP w base v l) (u : Value) (r : List (Int × Int)) (hr : RdP w w.heap.size u r)
    (hlen : l.length + r.length ≤ 1000000) (hbase : base ≤ w.heap.size) :
    ∃ v' w', (Builtin.append_ #[30, 30] ty #[v, u]).run Try.prog w = .ok v' w' ∧ OwnP w' base v' (l ++ r) ∧ Below base w w' := by
  obtain ⟨i, hi, hz, hs, hby⟩ := pair_parts
  have hbt : ∀ p ∈ l ++ r, Pok p := fun p hp => (List.mem_append.1 hp).elim (hown.2 p) (hr.ok p)
  obtain ⟨a, c, rfl, hlc, hc, hnil, _, hcell⟩ := hr
  cases a with
  | none =>
    have hc0 := hnil rfl
    subst hc0
    have hr0 : r = [] := List.eq_nil_of_length_eq_zero (by omega)
    subst hr0
    refine ⟨v, w, run_append_owned_none w base 30 ty 28 i 2 Try.underlying30 hi v l.length (cells2 l) hown.1, ?_, Below.refl _ _⟩
    rw [List.append_nil]; exact hown
  | some ad =>
    have hnews : ∀ j q, (cells2 r)[j]? = some q → w.cell? (ad.add j) = some q := by
      intro j q hq
      obtain ⟨k, p, hk, hcase⟩ := cells2_at r j q hq
      have hkl := (List.getElem?_eq_some_iff.1 hk).1
      obtain ⟨b, off, e, _, hcc⟩ := hcell (by omega)
      injection e with e
      subst e
      rw [add_plain]
      rcases hcase with ⟨rfl, rfl⟩ | ⟨rfl, rfl⟩
      · exact (hcc k p hk).1
      · rw [← Nat.add_assoc]; exact (hcc k p hk).2
    obtain ⟨v', w', hrun, h2, h3, _, h5⟩ := run_append_own_at (P := Try.prog) w base 30 ty 28 i _ 2 16 Try.underlying30 hi hz hs hby rfl (by omega) v l.length (cells2 l) hown.1 ad r.length c (cells2 r)
      (by rw [cells2_len]) hnews (cells2_one r) (by simp only [maxLen]; omega) (by omega) hbase
    refine ⟨v', w', hrun, ⟨?_, hbt⟩, ?_⟩
    · rw [List.length_append, cells2_append]; exact h2
    · exact (Below.refl _ _).grown h3 hbase (fun k hk => (hown.1.lt k hk).1)
theorem wpList_appP {w : World} {ops : Array Oper} {rest : List Oper} {o : Oper} {a : Act} {Q : Exit → Act → World → Prop} (hgd : o.guard = none) (s x : Operand)
    (ho : o.op = .call { callee := .builtin .append, args := #[s, x], argTypes := #[30, 30] })
    (base : Nat) (v : Value) (l : List (Int × Int)) (hs : a.eval s = v) (hown : OwnP w base v l) (u : Value) (r : List (Int × Int)) (hx : a.eval x = u) (hr : RdP w w.heap.size u r)
    (hlen : l.length + r.length ≤ 1000000) (hbase : base ≤ w.heap.size)
    (h : ∀ v' w', OwnP w' base v' (l ++ r) → Below base w w' → wpList Try.prog ops Q rest (a.put o.dst v') w') : wpList Try.prog ops Q (o :: rest) a w := by
  refine wpList_plain hgd fun K hK => ?_
  obtain ⟨v', w', hrun, h2, h3⟩ := run_appP w o.type base v l hown u r hr hlen hbase
  unfold Oper.wp execOp
  simp only [ho, resolve, invoke, builtin, Sem.run_bind, Sem.run_pure, Result.andThen_ok, List.map_toArray, List.map_cons, List.map_nil, hs, hx, hrun]
  exact hK _ _ (h v' w' h2 h3)
/-- A slice's beginning, and its end. -/
theorem RdP.take {w : World} {B : Nat} {a : Option Addr} {l : List (Int × Int)} {c : Nat} (h : RdP w B (.slice a l.length c) l) (k : Nat) : RdP w B (.slice a (l.take k).length c) (l.take k) := by
  obtain ⟨a', c', e, h1, h2, h3, h4, h5⟩ := h
  injection e with e1 e2 e3
  subst e1 e3
  refine ⟨_, _, rfl, by rw [List.length_take]; omega, h2, h3, fun p hp => h4 p (List.mem_of_mem_take hp), fun hp => ?_⟩
  rw [List.length_take] at hp
  obtain ⟨b, off, rfl, hb, hc⟩ := h5 (by omega)
  exact ⟨b, off, rfl, hb, fun i p hi => hc i p (by rw [List.getElem?_take] at hi; split at hi <;> simp_all)⟩
theorem RdP.drop {w : World} {B b off n c : Nat} {l : List (Int × Int)} (h : RdP w B (.slice (some ⟨b, off, none⟩) n c) l) (k : Nat) (hk : k ≤ l.length) : RdP w B (.slice (some ⟨b, off + k * 2, none⟩) (n - k) (c - k)) (l.drop k) := by
  obtain ⟨a', c', e, h1, h2, h3, h4, h5⟩ := h
  injection e with e1 e2 e3
  subst e1 e2 e3
  refine ⟨some ⟨b, off + k * 2, none⟩, c - k, by rw [List.length_drop], by rw [List.length_drop]; omega, by omega, by simp, fun p hp => h4 p (List.mem_of_mem_drop hp), fun hp => ?_⟩
  rw [List.length_drop] at hp
  obtain ⟨b', off', e, hb, hc⟩ := h5 (by omega)
  injection e with e
  injection e with e1 e2
  subst e1 e2
  refine ⟨b, off + k * 2, rfl, hb, fun i p hi => ?_⟩
  rw [List.getElem?_drop] at hi
  have := hc (k + i) p hi
  rw [Nat.add_mul, ← Nat.add_assoc] at this
  exact this
end Go.Proofs.Ythlhfnafgjecaaa
