/- Pairs that are turned round in a slice; what a sum of products does not hang on; Bring. -/
import Derived.Test.YtopakodhjaffiaaOwn
namespace Go.Proofs.Ytopakodhjaffiaa
open Go.RowKit
set_option linter.unusedVariables false

theorem cells2_set : ∀ (l : List (Int × Int)) (i : Nat) (q : Int × Int), i < l.length → cells2 (l.set i q) = ((cells2 l).set (i * 2) (.int .i64 q.1)).set (i * 2 + 1) (.int .i64 q.2)
  | [], i, q, h => by simp at h
  | p :: l, 0, q, h => by simp [cells2]
  | p :: l, i + 1, q, h => by
    have := cells2_set l i q (by simpa using h)
    rw [show (i + 1) * 2 = i * 2 + 1 + 1 by omega]
    simp [cells2, this]
theorem OwnP.stored {w : World} {base g cap n : Nat} {l : List (Int × Int)} (h : OwnP w base (.slice (some ⟨g, 0, none⟩) n cap) l) (hn : l.length = n) (i : Nat) (hi : i < l.length) (q : Int × Int) (hq : Pok q) :
    OwnP ((w.setCell ⟨g, i * 2, none⟩ (.int .i64 q.1)).setCell ⟨g, i * 2 + 1, none⟩ (.int .i64 q.2)) base (.slice (some ⟨g, 0, none⟩) n cap) (l.set i q) := by
  subst hn
  refine ⟨?_, fun y hy => ?_⟩
  · have h1 := (h.1.stored (i * 2) (.int .i64 q.1)).1
    have h2 := (h1.stored (i * 2 + 1) (.int .i64 q.2)).1
    rw [List.length_set, cells2_set l i q hi]
    exact h2
  · rcases List.mem_or_eq_of_mem_set hy with hy | rfl
    · exact h.2 y hy
    · exact hq
theorem OwnP.form {w : World} {base : Nat} {v : Value} {l : List (Int × Int)} (h : OwnP w base v l) (hn : 0 < l.length) : ∃ g cap, v = .slice (some ⟨g, 0, none⟩) l.length cap ∧ base ≤ g ∧ g < w.heap.size ∧ ∀ k, w.frozen? ⟨g, k, none⟩ = false := by
  rcases h.1.2 with ⟨_, h0⟩ | ⟨g, cap, cur, rfl, hg, hh, h2, h3, _⟩
  · omega
  · refine ⟨g, cap, rfl, hg, ?_, fun k => frozen_of_row _ _ _ _ _ hh⟩
    rcases Nat.lt_or_ge g w.heap.size with hlt | hge
    · exact hlt
    · rw [Array.getElem?_eq_none hge] at hh; cases hh
theorem dot_append (l r : List (Int × Int)) : dot (l ++ r) = dot l + dot r := by simp [dot]
theorem dot_turn (l : List (Int × Int)) (k : Nat) : dot (l.drop k ++ l.take k) = dot l := by
  rw [dot_append, Int.add_comm, ← dot_append, List.take_append_drop]
theorem dot_set (l : List (Int × Int)) (i : Nat) (p : Int × Int) (h : l[i]? = some p) : dot (l.set i (p.2, p.1)) = dot l := by
  obtain ⟨hi, e⟩ := List.getElem?_eq_some_iff.1 h
  unfold dot
  rw [List.map_set]
  congr 1
  apply List.ext_getElem?
  intro j
  rw [List.getElem?_set]
  split
  · rename_i hj
    subst hj
    simp [List.getElem?_eq_getElem hi, e, Int.mul_comm]
    exact hi
  · rfl
theorem bring_eq (x n : Int) (hn : 0 < n) (hn' : n ≤ 1152921504606846976) : (x.tmod n < 0 → wrap64 (x.tmod n + n) = x % n) ∧ (0 ≤ x.tmod n → x.tmod n = x % n) := by
  unfold wrap64
  have h := Int.tmod_eq_emod (a := x) (b := n)
  have h2 := Int.emod_nonneg x (b := n) (by omega)
  have h3 := Int.emod_lt_of_pos x hn
  split at h <;> constructor <;> intro h5 <;> omega
set_option maxHeartbeats 400000 in
theorem bring (x n : Int) (w : World) (h0 : -9223372036854775808 ≤ x) (h1 : x ≤ 9223372036854775807) (hn : 0 < n) (hn' : n ≤ 1152921504606846976) :
    Calls Try.prog 34 #[.int .i64 x, .int .i64 n] w fun e w' => e = .returned (.int .i64 (x % n)) ∧ w = w' := by
  have he := Lib.hid (bring_eq x n hn hn')
  go_enter Try.func34, Try.ntmps34
  go_wp2
  · go_ret
    exact ⟨congrArg Ending.returned (congrArg (Value.int IntKind.i64) (he.out.1 (by assumption))), rfl⟩
  · go_ret
    exact ⟨congrArg Ending.returned (congrArg (Value.int IntKind.i64) (he.out.2 (by assumption))), rfl⟩
theorem step_appP {w : World} {ops : Array Oper} {o : Oper} {a : Act} {K : Act → World → Prop} {Q : Exit → Act → World → Prop} {E : Prop} (hgd : o.guard = none) (s x : Operand)
    (ho : o.op = .call { callee := .builtin .append, args := #[s, x], argTypes := #[47, 47] })
    (base : Nat) (v : Value) (l : List (Int × Int)) (hs : a.eval s = v) (hown : OwnP w base v l) (u : Value) (r : List (Int × Int)) (hx : a.eval x = u) (hr : RdP w w.heap.size u r)
    (hlen : l.length + r.length ≤ 1000000) (hbase : base ≤ w.heap.size)
    (h : ∀ v' w', OwnP w' base v' (l ++ r) → Below base w w' → K (a.put o.dst v') w') : if Region.wanted o (yielded ops a.tmps) = true then Oper.wp Try.prog o a w K Q else E := by
  have hw : Region.wanted o (yielded ops a.tmps) = true := by simp [Region.wanted, hgd]
  rw [if_pos hw]
  obtain ⟨v', w', hrun, h2, h3⟩ := run_appP w o.type base v l hown u r hr hlen hbase
  unfold Oper.wp execOp
  simp only [ho, resolve, invoke, builtin, Sem.run_bind, Sem.run_pure, Result.andThen_ok, List.map_toArray, List.map_cons, List.map_nil, hs, hx, hrun]
  exact h v' w' h2 h3
theorem pairs_under : Try.prog.underlying 47 = some (.slice (Try.prog.elem 47)) := by kernel_rfl
theorem pair_sz (w : World) : (sizeOf (Try.prog.elem 47)).run Try.prog w = .ok 2 w := by kernel_rfl
/-- A cut reads as a cut. -/
theorem rdP_sliced (w : World) (B : Nat) (a : Option Addr) (l : List (Int × Int)) (n c k m : Nat) (h : RdP w B (.slice a n c) l) (hn : l.length = n) (hk : k ≤ m) (hm : m ≤ l.length) :
    RdP w B (.slice (if c = k then a else a.map (·.add (k * 2))) (m - k) (c - k)) ((l.take m).drop k) := by
  subst hn
  obtain ⟨a', c', e, h1, h2, h3, h4, h5⟩ := h
  injection e with e1 e2 e3
  subst e1 e3
  have hlen : ((l.take m).drop k).length = m - k := by rw [List.length_drop, List.length_take]; omega
  refine ⟨_, _, by rw [hlen], by rw [hlen]; omega, by omega, fun hn => ?_, fun x hx => h4 x (List.mem_of_mem_take (List.mem_of_mem_drop hx)), fun hp' => ?_⟩
  · by_cases e : c = k
    · omega
    · rw [if_neg e] at hn
      have := h3 (by simpa using hn)
      omega
  · rw [hlen] at hp'
    obtain ⟨b, off, rfl, hb, hc⟩ := h5 (by omega)
    refine ⟨b, off + k * 2, by rw [if_neg (by omega)]; simp [add_plain], hb, fun j p hj => ?_⟩
    have hj' : l[k + j]? = some p := by
      rw [List.getElem?_drop, List.getElem?_take] at hj
      split at hj
      · exact hj
      · cases hj
    have := hc (k + j) p hj'
    rw [Nat.add_mul, ← Nat.add_assoc] at this
    exact this
/-- A slice, from a place on; up to a place. -/
theorem cutP_from (w : World) (B : Nat) (a : Option Addr) (l : List (Int × Int)) (n c p : Nat) (h : RdP w B (.slice a n c) l) (hn : l.length = n) (hp : p ≤ l.length) :
    ∃ u, (∀ w', (Instr.slice 47 (.slice a n c) (some (.int .i64 (p : Int))) none none).run Try.prog w' = .ok u w') ∧ RdP w B u (l.drop p) := by
  refine ⟨_, fun w' => ?_, by have := rdP_sliced w B a l n c p l.length h hn hp (Nat.le_refl _); rw [List.take_length] at this; exact this⟩
  rw [run_slice_l w' _ _ _ _ pairs_under _ _ (by omega) (by omega), pair_sz]
  simp [sliced, hn]
theorem cutP_to (w : World) (B : Nat) (a : Option Addr) (l : List (Int × Int)) (n c p : Nat) (h : RdP w B (.slice a n c) l) (hn : l.length = n) (hp : p ≤ l.length) :
    ∃ u, (∀ w', (Instr.slice 47 (.slice a n c) none (some (.int .i64 (p : Int))) none).run Try.prog w' = .ok u w') ∧ RdP w B u (l.take p) := by
  obtain ⟨_, _, e, hlc, _⟩ := id h
  injection e with _ e2 e3
  subst e3
  refine ⟨_, fun w' => ?_, by have := rdP_sliced w B a l n c 0 p h hn (Nat.zero_le _) hp; rw [List.drop_zero] at this; exact this⟩
  rw [run_slice_h w' _ _ _ _ pairs_under _ _ (by omega) (by omega), pair_sz]
  simp [sliced]
end Go.Proofs.Ytopakodhjaffiaa
