/- A value that is cut out of a tape; what stands beside a key. -/
import Derived.Test.YteklcfimafplbaaDoorKids
import Derived.Laws.OwnMore
namespace Go.Proofs.YteklcfimafplbaaDoor
open Go.RowKit
set_option linter.unusedVariables false
set_option maxRecDepth 100000

/-- At each place of a forest a value stands. -/
theorem sub_at {l : List Nd} : ∀ (F : Fo) (a i : Nat), Tp.At l a F → Tp.good F → i < Tp.sz F → ∃ k y n s c, Tp.At l (a + i) (.node k y n s c .nil) ∧ Tp.good (.node k y n s c .nil) ∧ Tp.dep (.node k y n s c .nil) ≤ Tp.dep F
  | .nil, a, i, _, _, h => by simp at h
  | .node k y n s c r, a, i, hA, hg, h => by
    obtain ⟨h0, hc, hr⟩ := Tp.at_node.1 hA
    obtain ⟨g1, g2, g3, g4, g5⟩ := hg
    rw [Tp.sz_node] at h
    rcases (show i = 0 ∨ (1 ≤ i ∧ i < 1 + Tp.sz c) ∨ 1 + Tp.sz c ≤ i by omega) with e | e | e
    · subst e
      exact ⟨k, y, n, s, c, Tp.at_node.2 ⟨h0, hc, Tp.At.nil _ _⟩, ⟨g1, g2, g3, g4, trivial⟩, by simp [Tp.dep]; omega⟩
    · obtain ⟨k', y', n', s', c', q1, q2, q3⟩ := sub_at c (a + 1) (i - 1) hc g4 (by omega)
      rw [show a + 1 + (i - 1) = a + i by omega] at q1
      exact ⟨k', y', n', s', c', q1, q2, by simp only [Tp.dep] at q3 ⊢; omega⟩
    · obtain ⟨k', y', n', s', c', q1, q2, q3⟩ := sub_at r (a + 1 + Tp.sz c) (i - (1 + Tp.sz c)) hr g5 (by omega)
      rw [show a + 1 + Tp.sz c + (i - (1 + Tp.sz c)) = a + i by omega] at q1
      exact ⟨k', y', n', s', c', q1, q2, by simp only [Tp.dep] at q3 ⊢; omega⟩
theorem at_cut {l : List Nd} {a : Nat} {F : Fo} (h : Tp.At l a F) : (l.take (a + Tp.sz F)).drop a = Tp.flat F := by
  obtain ⟨t, ht⟩ := h
  rw [List.drop_take, ← ht, show a + Tp.sz F - a = (Tp.flat F).length by unfold Tp.sz; omega, List.take_left]
/-- The tape at a place. -/
def cutF (k n : Int) (s : ByteArray) (c : Fo) : List Nd := Tp.flat (.node k ⟨#[]⟩ n s c .nil)
/-- The first key is taken off. -/
theorem own_key {w : World} {base g cap m : Nat} {k n : Int} {y s : ByteArray} {c : Fo} (h : OwnN w base (.slice (some ⟨g, 0, none⟩) m cap) (Tp.flat (.node k y n s c .nil))) (hm : m = (Tp.flat (.node k y n s c .nil)).length) :
    OwnN (w.setCell ⟨g, 1, none⟩ (.string ⟨#[]⟩)) base (.slice (some ⟨g, 0, none⟩) m cap) (cutF k n s c) ∧ w.frozen? ⟨g, 1, none⟩ = false ∧ w.cell? ⟨g, 1, none⟩ = some (.string y) ∧ base ≤ g := by
  subst hm
  have h' : w.ownsRow base 36 5 (.slice (some ⟨g, 0, none⟩) (Tp.flat (.node k y n s c .nil)).length cap) (Tp.flat (.node k y n s c .nil)).length (Gn.cells ndc (Tp.flat (.node k y n s c .nil))) := h
  have e : Gn.cells ndc (cutF k n s c) = (Gn.cells ndc (Tp.flat (.node k y n s c .nil))).set 1 (.string ⟨#[]⟩) := rfl
  refine ⟨?_, h'.frozenAt 1, ?_, (h'.lt g rfl).1⟩
  · have := (h'.stored 1 (.string ⟨#[]⟩)).1
    unfold OwnN Gn.Own
    rw [e]
    exact this
  · have hl : (Tp.flat (.node k y n s c .nil)).length * 5 > 1 := by simp [Tp.flat]; omega
    rw [h'.cellAt 1 hl]
    rfl
theorem eql_nil (a : Addr) (n c : Nat) (w : World) : (binOp .eql 25 (.slice (some a) n c) (.slice none 0 0)).run Tryd.prog w = .ok (.bool false) w := by
  exact Lib.run_eql_slice_nil w 25 36 (some a) n c 0 0 Tryd.underlying25
set_option maxHeartbeats 4000000 in
theorem clone (v : Value) (l : List Nd) (w : World) (h : RdN w w.heap.size v l) (h0 : 0 < l.length) (hl : l.length ≤ 1000000) :
    Calls Tryd.prog 88 #[v] w fun e w' => ∃ v', e = .returned v' ∧ OwnN w' w.heap.size v' l ∧ Below w.heap.size w w' := by
  obtain ⟨ad, c, rfl, _⟩ := Gn.Rd.form h
  obtain ⟨b0, off, rfl, _, _⟩ := Gn.Rd.at h (Below.refl _ _) h0
  have HR := Lib.hid (Gn.Rd.later h (up_new w (.cells #[] 36)))
  have HO : Hid (OwnN (w.alloc (.cells #[] 36)) w.heap.size (.slice (some ⟨w.heap.size, 0, none⟩) 0 0) []) := Lib.hid (Gn.Own.lit ndL w w.heap.size [] #[] 0 0 rfl rfl rfl (by simp [maxLen]) (Nat.le_refl _))
  have HU := Lib.hid (up_new w (.cells #[] 36))
  have qT := fun w => eql_nil ⟨b0, off, none⟩ l.length c w
  clear h
  go_enter Tryd.func88, Tryd.ntmps88
  go_wp2_with (at_builtin
               refine Gn.wpList_app ndL ndY rfl (.tmp 5) (.tmp 6) rfl w.heap.size _ [] rfl HO.out _ l rfl HR.out (by simp; omega) HU.out.size ?_
               intro v1 w1 ho1 hg1 hl1 hn1)
  go_ret
  exact ⟨_, rfl, ho1, HU.out.trans (Gn.below_of_own HO.out hg1 HU.out.size)⟩
set_option maxHeartbeats 4000000 in
theorem cutOut (W : World) (v : Value) (l : List Nd) (a : Nat) (w : World) (hR : RdN W W.heap.size v l) (hl : l.length ≤ 4000) (hW : Below W.heap.size W w) (k n : Int) (y s : ByteArray) (c : Fo) (hAt : Tp.At l a (.node k y n s c .nil)) :
    Calls Tryd.prog 42 #[v, .int .i64 a] w fun e w' => MkPost w (cutF k n s c) e w' := by
  have hlen := Tp.At.len hAt
  rw [Tp.sz_node, Tp.sz_nil] at hlen
  have h0 := (Tp.at_node.1 hAt).1
  have hlt : (a : Int) < l.length := by have := (List.getElem?_eq_some_iff.1 h0).1; omega
  have hRw := Gn.Rd.below hR hW (Nat.le_refl _)
  have hcut := at_cut hAt
  rw [Tp.sz_node, Tp.sz_nil] at hcut
  obtain ⟨ad, cp, rfl, _⟩ := Gn.Rd.form hR
  obtain ⟨b0, off, rfl, _, _, _, _, c4⟩ := rdN_cells hR hW h0
  have hcp : l.length ≤ cp := by obtain ⟨_, _, e, h, _⟩ := hRw; injection e with _ _ e; omega
  have hur := Gn.rd_sliced w W.heap.size (some ⟨b0, off, none⟩) l l.length cp a (a + (1 + Tp.sz c + 0)) hRw rfl (by omega) (by omega)
  rw [hcut, if_neg (by omega), Option.map_some, Gn.plain, show a + (1 + Tp.sz c + 0) - a = 1 + Tp.sz c by omega] at hur
  have hfl : (Tp.flat (.node k y n s c .nil)).length = 1 + Tp.sz c := by show Tp.sz _ = _; rw [Tp.sz_node]; simp
  have CC := Lib.hid (clone _ _ w (Gn.Rd.more hur hW.size) (by rw [hfl]; omega) (by rw [hfl]; omega))
  have HFL := Lib.hid hfl
  clear hR hW hRw hcut hur hAt h0 hfl hcp
  go_enter Tryd.func42, Tryd.ntmps42
  go_wp2_with fail
  ((with_reducible refine (CC.out).mono ?_); rintro e w2 ⟨v2, rfl, ho, hb⟩)
  obtain ⟨g, cap, rfl⟩ : ∃ g cap, v2 = .slice (some ⟨g, 0, none⟩) (Tp.flat (.node k y n s c .nil)).length cap := by
    rcases ho.2 with ⟨_, h⟩ | ⟨g, cap, cur, rfl, _⟩
    · rw [HFL.out] at h; omega
    · exact ⟨g, cap, rfl⟩
  obtain ⟨q1, q2, q3, q4⟩ := own_key ho rfl
  have HQ := Lib.hid q1
  have HB := Lib.hid (hb.setCell (p := ⟨g, 1, none⟩) q4 (.string ⟨#[]⟩))
  have hpos : (0 : Int) < ((Tp.flat (.node k y n s c .nil)).length : Nat) := by have := HFL.out; omega
  have hpos2 : 0 < (Tp.flat (.node k y n s c .nil)).length := by have := HFL.out; omega
  generalize (Tp.flat (.node k y n s c .nil)).length = len at *
  clear ho hb q1
  go_wp2_with fail
  go_ret
  exact ⟨_, rfl, HQ.out, HB.out⟩
end Go.Proofs.YteklcfimafplbaaDoor
