/- The law's own helpers: spoil, few. -/
import Derived.Test.YteklcfimafplbaaDoorEq
import Derived.Laws.EntriesVeiled
namespace Go.Proofs.YteklcfimafplbaaDoor
open Go.RowKit
set_option linter.unusedVariables false
set_option maxRecDepth 100000

theorem cells_set : ∀ (l : List Nd) (i : Nat) (x x' : Nd) (m : Nat) (u : Value), l[i]? = some x → ndc x' = (ndc x).set m u → m < 5 → Gn.cells ndc (l.set i x') = (Gn.cells ndc l).set (i * 5 + m) u
  | [], i, x, x', m, u, h, _, _ => by simp at h
  | y :: l, 0, x, x', m, u, h, e, hm => by
    simp at h; subst h
    rw [List.set_cons_zero, Gn.cells_cons, Gn.cells_cons, e, Nat.zero_mul, Nat.zero_add, List.set_append_left (h := by rw [ndL.len]; exact hm)]
  | y :: l, i + 1, x, x', m, u, h, e, hm => by
    have := cells_set l i x x' m u (by simpa using h) e hm
    rw [List.set_cons_succ, Gn.cells_cons, Gn.cells_cons, this, List.set_append_right (h := by rw [ndL.len]; omega), ndL.len, show (i + 1) * 5 + m - 5 = i * 5 + m by omega]
/-- One cell of an owned node is written. -/
theorem own_put {w : World} {base : Nat} {g n cap : Nat} {l : List Nd} {i : Nat} {x x' : Nd} {m : Nat} {u : Value} (h : OwnN w base (.slice (some ⟨g, 0, none⟩) n cap) l) (hn : l.length = n) (hx : l[i]? = some x) (e : ndc x' = (ndc x).set m u) (hm : m < 5) :
    OwnN (w.setCell ⟨g, i * 5 + m, none⟩ u) base (.slice (some ⟨g, 0, none⟩) n cap) (l.set i x') := by
  subst hn
  have h' : w.ownsRow base 36 5 (.slice (some ⟨g, 0, none⟩) l.length cap) l.length (Gn.cells ndc l) := h
  have := (h'.stored (i * 5 + m) u).1
  unfold OwnN Gn.Own
  rw [cells_set l i x x' m u hx e hm, List.length_set]
  exact this
theorem own_melt {w : World} {base : Nat} {g n cap : Nat} {l : List Nd} (h : OwnN w base (.slice (some ⟨g, 0, none⟩) n cap) l) (hn : l.length = n) (j : Nat) : w.frozen? ⟨g, j, none⟩ = false := by
  subst hn
  have h' : w.ownsRow base 36 5 (.slice (some ⟨g, 0, none⟩) l.length cap) l.length (Gn.cells ndc l) := h
  exact h'.frozenAt j
theorem own_addr {w : World} {base n cap : Nat} {ad : Option Addr} {l : List Nd} (h : OwnN w base (.slice ad n cap) l) (h0 : 0 < l.length) : ∃ g, ad = some ⟨g, 0, none⟩ := by
  rcases h.2 with ⟨_, e⟩ | ⟨g, c, cur, e, _⟩
  · omega
  · injection e with e
    exact ⟨g, e⟩
theorem own_whole {w : World} {base : Nat} {g n cap : Nat} {l : List Nd} {i : Nat} {x : Nd} (x' : Nd) (h : OwnN w base (.slice (some ⟨g, 0, none⟩) n cap) l) (hn : l.length = n) (hx : l[i]? = some x) :
    OwnN (((((w.setCell ⟨g, i * 5, none⟩ (.int .i64 x'.kind)).setCell ⟨g, i * 5 + 1, none⟩ (.string x'.key)).setCell ⟨g, i * 5 + 2, none⟩ (.int .i64 x'.n)).setCell ⟨g, i * 5 + 3, none⟩ (.string x'.s)).setCell ⟨g, i * 5 + 4, none⟩ (.int .i64 x'.size)) base (.slice (some ⟨g, 0, none⟩) n cap) (l.set i x') := by
  have hi := (List.getElem?_eq_some_iff.1 hx).1
  have get : ∀ y : Nd, (l.set i y)[i]? = some y := fun y => by rw [List.getElem?_set_self hi]
  have h0 := own_put (m := 0) (u := .int .i64 x'.kind) (x' := ⟨x'.kind, x.key, x.n, x.s, x.size⟩) h hn hx rfl (by omega)
  have h1 := own_put (m := 1) (u := .string x'.key) (x' := ⟨x'.kind, x'.key, x.n, x.s, x.size⟩) h0 (by simpa using hn) (get _) rfl (by omega)
  rw [List.set_set] at h1
  have h2 := own_put (m := 2) (u := .int .i64 x'.n) (x' := ⟨x'.kind, x'.key, x'.n, x.s, x.size⟩) h1 (by simpa using hn) (get _) rfl (by omega)
  rw [List.set_set] at h2
  have h3 := own_put (m := 3) (u := .string x'.s) (x' := ⟨x'.kind, x'.key, x'.n, x'.s, x.size⟩) h2 (by simpa using hn) (get _) rfl (by omega)
  rw [List.set_set] at h3
  have h4 := own_put (m := 4) (u := .int .i64 x'.size) (x' := x') h3 (by simpa using hn) (get _) rfl (by omega)
  rw [List.set_set] at h4
  exact h4

set_option maxHeartbeats 4000000 in
theorem spoil (v : Value) (l : List Nd) (w : World) (base : Nat) (h : OwnN w base v l) (hl : l.length ≤ 1000000) :
    Calls Tryd.prog 56 #[v] w fun e w' => e = .returned (.tuple #[]) ∧ Touch (fun i => v.ownBlock = some i) w w' := by
  obtain ⟨ad, cp, rfl, _⟩ := Gn.Rd.form (Gn.Own.rd ndL h)
  have HO := Lib.hid h
  clear h
  go_enter Tryd.func56, Tryd.ntmps56
  go_wp2_with fail
  go_loopw [2] (fun i wr => ∃ (k : Nat) (lk : List Nd), i = .int .i64 (k : Nat) ∧ k ≤ l.length ∧ Hid (lk.length = l.length ∧ OwnN wr base (.slice ad l.length cp) lk) ∧ Hid (Touch (fun i => (Value.slice ad l.length cp).ownBlock = some i) w wr)) (fun i _ => l.length - (intOf i).toNat)
  case atStart => exact ⟨0, l, by rfl, by omega, Lib.hid ⟨rfl, HO.out⟩, Lib.hid (Touch.refl _ _)⟩
  case round =>
    obtain ⟨k, lk, rfl, hk, HK, HT⟩ := hrel
    by_cases hlt : k < l.length
    · have hlt1 : (k : Int) < l.length := by omega
      have hkl : k < lk.length := by rw [HK.out.1]; exact hlt
      obtain ⟨x, hx⟩ : ∃ x, lk[k]? = some x := ⟨_, List.getElem?_eq_getElem hkl⟩
      obtain ⟨g, rfl⟩ := own_addr HK.out.2 (by omega)
      obtain ⟨b, o, e, p0, p1, p2, p3, p4⟩ := rdN_cells (HK.out.1 ▸ Gn.Own.rd ndL HK.out.2) (Below.refl _ _) hx
      obtain ⟨rfl, rfl⟩ : g = b ∧ 0 = o := by injection e with e; injection e with e1 e2; exact ⟨e1, e2⟩
      simp only [Nat.zero_add] at p0 p1 p2 p3 p4
      have hf := own_melt HK.out.2 HK.out.1
      have HW := Lib.hid (own_whole ⟨99, ⟨#[]⟩, 0, ⟨#[]⟩, 0⟩ HK.out.2 HK.out.1 hx)
      have HL : Hid ((lk.set k ⟨99, ⟨#[]⟩, 0, ⟨#[]⟩, 0⟩).length = l.length) := Lib.hid (by rw [List.length_set]; exact HK.out.1)
      have HT2 := Lib.hid (HT.out.setCell (p := ⟨g, k * 5, none⟩) rfl (.int .i64 99) |>.setCell (p := ⟨g, k * 5 + 1, none⟩) rfl (.string ⟨#[]⟩) |>.setCell (p := ⟨g, k * 5 + 2, none⟩) rfl (.int .i64 0) |>.setCell (p := ⟨g, k * 5 + 3, none⟩) rfl (.string ⟨#[]⟩) |>.setCell (p := ⟨g, k * 5 + 4, none⟩) rfl (.int .i64 0))
      clear hx e hkl
      go_wp2_with fail
      go_roundw
      case rel => exact ⟨k + 1, _, by go_num, by omega, Lib.hid ⟨HL.out, HW.out⟩, HT2⟩
      case measure => simp [intOf]; omega
    · have hlt1 : ¬ (k : Int) < l.length := by omega
      go_wp2_with fail
      go_end0
      exact ⟨rfl, HT.out⟩
end Go.Proofs.YteklcfimafplbaaDoor
