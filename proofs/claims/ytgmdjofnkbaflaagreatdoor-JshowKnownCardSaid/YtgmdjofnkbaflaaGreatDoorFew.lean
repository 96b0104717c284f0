/- The law's own helpers: spoil, few. -/
import Derived.Test.YtgmdjofnkbaflaaGreatDoorEq
import Derived.Laws.EntriesVeiled
namespace Go.Proofs.YtgmdjofnkbaflaaGreatDoor
open Go.RowKit
set_option linter.unusedVariables false
set_option maxRecDepth 100000

theorem cells_set : ∀ (l : List Nd) (i : Nat) (x x' : Nd) (m : Nat) (u : Value), l[i]? = some x → ndc x' = (ndc x).set m u → m < 5 → Gn.cells ndc (l.set i x') = (Gn.cells ndc l).set (i * 5 + m) u
  | [], i, x, x', m, u, h, _, _ => by simp at h
  | y :: l, 0, x, x', m, u, h, e, hm => by
    simp at h; subst h
    rw [List.set_cons_zero, Gn.cells_cons, Gn.cells_cons, e, Nat.zero_mul, Nat.zero_add, List.set_append_left (h := by rw [ndL.len]; exact hm)]
  | y :: l, i + 1, x, x', m, u, h, e, hm => by
    have := cells_set l i x x' m u (by simpa using h) e hm
    rw [List.set_cons_succ, Gn.cells_cons, Gn.cells_cons, this, List.set_append_right (h := by rw [ndL.len]; omega), ndL.len, show (i + 1) * 5 + m - 5 = i * 5 + m by omega]
/-- One cell of an owned node is written. -/
theorem own_put {w : World} {base : Nat} {g n cap : Nat} {l : List Nd} {i : Nat} {x x' : Nd} {m : Nat} {u : Value} (h : OwnN w base (.slice (some ⟨g, 0, none⟩) n cap) l) (hn : l.length = n) (hx : l[i]? = some x) (e : ndc x' = (ndc x).set m u) (hm : m < 5) :
    OwnN (w.setCell ⟨g, i * 5 + m, none⟩ u) base (.slice (some ⟨g, 0, none⟩) n cap) (l.set i x') := by
  subst hn
  have h' : w.ownsRow base 28 5 (.slice (some ⟨g, 0, none⟩) l.length cap) l.length (Gn.cells ndc l) := h
  have := (h'.stored (i * 5 + m) u).1
  unfold OwnN Gn.Own
  rw [cells_set l i x x' m u hx e hm, List.length_set]
  exact this
theorem own_melt {w : World} {base : Nat} {g n cap : Nat} {l : List Nd} (h : OwnN w base (.slice (some ⟨g, 0, none⟩) n cap) l) (hn : l.length = n) (j : Nat) : w.frozen? ⟨g, j, none⟩ = false := by
  subst hn
  have h' : w.ownsRow base 28 5 (.slice (some ⟨g, 0, none⟩) l.length cap) l.length (Gn.cells ndc l) := h
  exact h'.frozenAt j
theorem own_addr {w : World} {base n cap : Nat} {ad : Option Addr} {l : List Nd} (h : OwnN w base (.slice ad n cap) l) (h0 : 0 < l.length) : ∃ g, ad = some ⟨g, 0, none⟩ := by
  rcases h.2 with ⟨_, e⟩ | ⟨g, c, cur, e, _⟩
  · omega
  · injection e with e
    exact ⟨g, e⟩
theorem own_whole {w : World} {base : Nat} {g n cap : Nat} {l : List Nd} {i : Nat} {x : Nd} (x' : Nd) (h : OwnN w base (.slice (some ⟨g, 0, none⟩) n cap) l) (hn : l.length = n) (hx : l[i]? = some x) :
    OwnN (((((w.setCell ⟨g, i * 5, none⟩ (.int .i64 x'.kind)).setCell ⟨g, i * 5 + 1, none⟩ (.string x'.key)).setCell ⟨g, i * 5 + 2, none⟩ (.int .i64 x'.n)).setCell ⟨g, i * 5 + 3, none⟩ (.string x'.s)).setCell ⟨g, i * 5 + 4, none⟩ (.int .i64 x'.size)) base (.slice (some ⟨g, 0, none⟩) n cap) (l.set i x') := by
  have hi := (List.getElem?_eq_some_iff.1 hx).1
  have get : ∀ y : Nd, (l.set i y)[i]? = some y := fun y => by rw [List.getElem?_set_self hi]
  have h0 := own_put (m := 0) (u := .int .i64 x'.kind) (x' := ⟨x'.kind, x.key, x.n, x.s, x.size⟩) h hn hx rfl (by omega)
  have h1 := own_put (m := 1) (u := .string x'.key) (x' := ⟨x'.kind, x'.key, x.n, x.s, x.size⟩) h0 (by simpa using hn) (get _) rfl (by omega)
  rw [List.set_set] at h1
  have h2 := own_put (m := 2) (u := .int .i64 x'.n) (x' := ⟨x'.kind, x'.key, x'.n, x.s, x.size⟩) h1 (by simpa using hn) (get _) rfl (by omega)
  rw [List.set_set] at h2
  have h3 := own_put (m := 3) (u := .string x'.s) (x' := ⟨x'.kind, x'.key, x'.n, x'.s, x.size⟩) h2 (by simpa using hn) (get _) rfl (by omega)
  rw [List.set_set] at h3
  have h4 := own_put (m := 4) (u := .int .i64 x'.size) (x' := x') h3 (by simpa using hn) (get _) rfl (by omega)
  rw [List.set_set] at h4
  exact h4

end Go.Proofs.YtgmdjofnkbaflaaGreatDoor
