/- Slices whose elements have k cells, whatever they are: slices that read as a list, slices that a call owns, append, cuts. -/
import Derived.Test.YtenfjmdajlhfoaaChecked
import Derived.WalkKit
import Derived.WalkSpells
import Derived.WalkLawsBesides
import Derived.Lib.Hide
import Derived.Maps.AppendAt
import Derived.Deep.AppendLies
import Derived.Laws.AppendOwnNone
import Derived.Deep.RegionLawGrows
namespace Go.Proofs.Ytenfjmdajlhfoaa.Gn
open Go.RowKit
set_option linter.unusedVariables false
set_option maxRecDepth 100000
variable {α : Type}

theorem plain (b off k : Nat) : (⟨b, off, none⟩ : Addr).add k = ⟨b, off + k, none⟩ := by unfold Addr.add; split <;> simp_all
/-- How an element lies: so many cells, each one cell. -/
structure Lay (enc : α → List Value) (k : Nat) : Prop where
  len : ∀ x, (enc x).length = k
  one : ∀ x, ∀ v ∈ enc x, v.oneCell' = true
  pos : 0 < k
def cells (enc : α → List Value) (l : List α) : List Value := l.flatMap enc
theorem cells_nil (enc : α → List Value) : cells enc [] = [] := rfl
theorem cells_cons (enc : α → List Value) (x : α) (l : List α) : cells enc (x :: l) = enc x ++ cells enc l := rfl
theorem cells_append (enc : α → List Value) (l r : List α) : cells enc (l ++ r) = cells enc l ++ cells enc r := by simp [cells]
theorem cells_len {enc : α → List Value} {k : Nat} (L : Lay enc k) : ∀ l : List α, (cells enc l).length = l.length * k
  | [] => by simp [cells]
  | x :: l => by rw [cells_cons, List.length_append, L.len, cells_len L l, List.length_cons, Nat.add_mul]; omega
theorem cells_one {enc : α → List Value} {k : Nat} (L : Lay enc k) (l : List α) : ∀ u ∈ cells enc l, u.oneCell' = true := by
  intro u hu
  obtain ⟨x, _, hx⟩ := List.mem_flatMap.1 hu
  exact L.one x u hx
theorem cells_get {enc : α → List Value} {k : Nat} (L : Lay enc k) : ∀ (l : List α) (i : Nat) (x : α) (j : Nat), l[i]? = some x → j < k → (cells enc l)[i * k + j]? = (enc x)[j]?
  | [], i, x, j, h, _ => by simp at h
  | y :: l, 0, x, j, h, hj => by
    simp at h; subst h
    rw [cells_cons, Nat.zero_mul, Nat.zero_add, List.getElem?_append_left (by rw [L.len]; exact hj)]
  | y :: l, i + 1, x, j, h, hj => by
    have := cells_get L l i x j (by simpa using h) hj
    rw [cells_cons, List.getElem?_append_right (by rw [L.len, Nat.add_mul]; omega), L.len, Nat.add_mul, show i * k + 1 * k + j - k = i * k + j by omega]
    exact this
theorem cells_at {enc : α → List Value} {k : Nat} (L : Lay enc k) (l : List α) (j : Nat) (u : Value) (h : (cells enc l)[j]? = some u) : ∃ i x m, l[i]? = some x ∧ m < k ∧ j = i * k + m ∧ (enc x)[m]? = some u := by
  have hj : j < (cells enc l).length := (List.getElem?_eq_some_iff.1 h).1
  rw [cells_len L] at hj
  have hk := L.pos
  have hi : j / k < l.length := by
    rw [Nat.div_lt_iff_lt_mul hk]; exact hj
  have hm : j % k < k := Nat.mod_lt _ hk
  have e : j = j / k * k + j % k := by rw [Nat.mul_comm]; exact (Nat.div_add_mod j k).symm
  refine ⟨j / k, l[j / k], j % k, List.getElem?_eq_getElem hi, hm, e, ?_⟩
  rw [← cells_get L l (j / k) _ (j % k) (List.getElem?_eq_getElem hi) hm, ← e]
  exact h

/-- A slice that reads as l; what it reads lies below block B. -/
def Rd (enc : α → List Value) (k : Nat) (w : World) (B : Nat) (v : Value) (l : List α) : Prop :=
  ∃ a c, v = .slice a l.length c ∧ l.length ≤ c ∧ c ≤ maxLen ∧ (a = none → c = 0) ∧
    (0 < l.length → ∃ b off, a = some ⟨b, off, none⟩ ∧ b < B ∧ ∀ i x j u, l[i]? = some x → (enc x)[j]? = some u → w.cell? ⟨b, off + i * k + j, none⟩ = some u)
/-- A slice that a call owns, from block 'base' on; it reads as l. -/
def Own (enc : α → List Value) (k : Nat) (T : TypeId) (w : World) (base : Nat) (v : Value) (l : List α) : Prop := w.ownsRow base T k v l.length (cells enc l)

section
variable {enc : α → List Value} {k : Nat} {T : TypeId} {w w' W : World} {B B' base : Nat} {v : Value} {l r : List α}

theorem Rd.len (h : Rd enc k w B v l) : l.length ≤ maxLen := by obtain ⟨_, c, _, h1, h2, _⟩ := h; omega
theorem Rd.len' (h : Rd enc k w B v l) : l.length ≤ 9223372036854775807 := by have := h.len; unfold maxLen at this; omega
theorem Rd.form (h : Rd enc k w B v l) : ∃ a c, v = .slice a l.length c ∧ l.length ≤ c ∧ c ≤ maxLen ∧ (a = none → c = 0) := by
  obtain ⟨a, c, h1, h2, h3, h4, _⟩ := h; exact ⟨a, c, h1, h2, h3, h4⟩
theorem Rd.below (h : Rd enc k w B v l) (hb : Below B' w w') (hB : B ≤ B') : Rd enc k w' B v l := by
  obtain ⟨a, c, rfl, h1, h2, h3, h5⟩ := h
  refine ⟨a, c, rfl, h1, h2, h3, fun hp => ?_⟩
  obtain ⟨b, off, rfl, hlt, hc⟩ := h5 hp
  exact ⟨b, off, rfl, hlt, fun i x j u hi hj => (hb.cell (p := ⟨b, off + i * k + j, none⟩) (by simp; omega)).trans (hc i x j u hi hj)⟩
theorem Rd.more (h : Rd enc k w B v l) (hB : B ≤ B') : Rd enc k w B' v l := by
  obtain ⟨a, c, rfl, h1, h2, h3, h5⟩ := h
  refine ⟨a, c, rfl, h1, h2, h3, fun hp => ?_⟩
  obtain ⟨b, off, rfl, hlt, hc⟩ := h5 hp
  exact ⟨b, off, rfl, by omega, hc⟩
theorem Rd.nil (w : World) (B : Nat) : Rd enc k w B (.slice none 0 0) ([] : List α) := ⟨none, 0, rfl, by simp, by simp, fun _ => rfl, by simp⟩
theorem Rd.later (h : Rd enc k w w.heap.size v l) (hb : Below w.heap.size w w') : Rd enc k w' w'.heap.size v l := (h.below hb (Nat.le_refl _)).more hb.size
theorem Rd.later' (h : Rd enc k w B v l) (hB : B ≤ w.heap.size) (hb : Below w.heap.size w w') : Rd enc k w' B v l := h.below hb hB
/-- An element's cells, in a later world. -/
theorem Rd.at {a : Option Addr} {n c : Nat} (h : Rd enc k W B (.slice a n c) l) (hb : Below B W w) {i : Nat} (hi : i < l.length) :
    ∃ b off, a = some ⟨b, off, none⟩ ∧ b < B ∧ ∀ j u, (enc l[i])[j]? = some u → w.cell? ⟨b, off + i * k + j, none⟩ = some u := by
  obtain ⟨a', c', e, _, _, _, hc⟩ := h
  injection e with e1 e2 e3
  subst e1
  obtain ⟨b, off, rfl, hlt, hcell⟩ := hc (by omega)
  exact ⟨b, off, rfl, hlt, fun j u hj => (hb.cell (p := ⟨b, _, none⟩) hlt).trans (hcell i _ j u (List.getElem?_eq_getElem hi) hj)⟩
theorem Own.rd (L : Lay enc k) (h : Own enc k T w base v l) : Rd enc k w w.heap.size v l := by
  obtain ⟨h0, h1⟩ := h
  rcases h1 with ⟨rfl, hn⟩ | ⟨g, cap, cur, rfl, hg, hh, h2, h3, h4, h5⟩
  · obtain rfl : l = [] := List.eq_nil_of_length_eq_zero hn
    exact Rd.nil _ _
  · refine ⟨_, cap, rfl, h2, h3, by simp, fun hp => ⟨g, 0, rfl, ?_, fun i x j u hi hj => ?_⟩⟩
    · rcases Nat.lt_or_ge g w.heap.size with hlt | hge
      · exact hlt
      · rw [Array.getElem?_eq_none hge] at hh; cases hh
    · have hjk : j < k := by have := (List.getElem?_eq_some_iff.1 hj).1; rwa [L.len] at this
      have e := World.ownsRow.cells (w := w) (base := base) (e := T) (size := k) (v := .slice (some ⟨g, 0, none⟩) l.length cap) (n := l.length) (xs := cells enc l) ⟨h0, .inr ⟨g, cap, cur, rfl, hg, hh, h2, h3, h4, h5⟩⟩ (g := g) rfl
        (i * k + j) u (by rw [cells_get L l i x j hi hjk]; exact hj)
      rw [plain, ← Nat.add_assoc] at e
      exact e
theorem Own.later (h : Own enc k T w base v l) (hb : Below w.heap.size w w') : Own enc k T w' base v l := by
  obtain ⟨h0, h1⟩ := h
  refine ⟨h0, ?_⟩
  rcases h1 with h1 | ⟨g, cap, cur, rfl, hg, hh, r⟩
  · exact .inl h1
  · have hlt : g < w.heap.size := by
      rcases Nat.lt_or_ge g w.heap.size with hlt | hge
      · exact hlt
      · rw [Array.getElem?_eq_none hge] at hh; cases hh
    exact .inr ⟨g, cap, cur, rfl, hg, (hb.block g hlt).trans hh, r⟩
theorem Own.kept (h : Own enc k T w base v l) {row : Option Nat} (hg : w.grownBy w' row) (hne : v.ownBlock = none ∨ v.ownBlock ≠ row) : Own enc k T w' base v l := World.ownsRow.kept h hg hne
theorem Own.nil (w : World) (base : Nat) : Own enc k T w base (.slice none 0 0) ([] : List α) := World.ownsRow_nil w base T k
theorem Own.lower (h : Own enc k T w base v l) (hB : B ≤ base) : Own enc k T w B v l := by
  obtain ⟨h0, h1⟩ := h
  refine ⟨h0, ?_⟩
  rcases h1 with h1 | ⟨g, cap, cur, rfl, hg, r⟩
  · exact .inl h1
  · exact .inr ⟨g, cap, cur, rfl, by omega, r⟩
theorem Own.drew (h : Own enc k T w base v l) : Own enc k T w.drew base v l := h
theorem Own.lt (h : Own enc k T w base v l) : ∀ g, v.ownBlock = some g → base ≤ g ∧ g < w.heap.size := World.ownsRow.lt h
/-- A row that was laid. -/
theorem Own.lit (L : Lay enc k) (w : World) (base : Nat) (l : List α) (cs : Array Value) (n c : Nat) (hcs : cs = (cells enc l).toArray) (hn : n = l.length) (hc : c = n) (hm : l.length ≤ maxLen) (hb : base ≤ w.heap.size) :
    Own enc k T (w.alloc (.cells cs T)) base (.slice (some ⟨w.heap.size, 0, none⟩) n c) l := by
  subst hcs; subst hc; subst hn
  refine ⟨cells_len L l, .inr ⟨w.heap.size, l.length, _, rfl, hb, heap_alloc_new w _, Nat.le_refl _, hm, by simp [cells_len L], ?_⟩⟩
  show List.take _ (cells enc l) = _
  rw [List.take_of_length_le (by rw [cells_len L]; exact Nat.le_refl _)]
end

/-- What the program says of a slice's type. -/
structure Ty (S T : TypeId) (z : Value) (k nb : Nat) : Prop where
  sl : Try.prog.underlying S = some (.slice T)
  el : Try.prog.elem S = T
  info : (Try.prog.info? T).map (fun i => (i.zero, i.size, i.bytes)) = some (some z, k, nb)
  zs : z.cells.size = k
  nb : nb ≤ 1000
theorem Ty.parts {S T : TypeId} {z : Value} {k nb : Nat} (h : Ty S T z k nb) : ∃ i, Try.prog.info? T = some i ∧ i.zero = some z ∧ i.size = k ∧ i.bytes = nb := by
  have h := h.info
  cases hi : Try.prog.info? T with
  | none => rw [hi] at h; cases h
  | some i =>
    rw [hi] at h
    simp at h
    exact ⟨i, rfl, h.1, h.2.1, h.2.2⟩
/-- append onto what is owned, of whatever reads as a list. -/
theorem run_app {enc : α → List Value} {k : Nat} {S T : TypeId} {z : Value} {nb : Nat} (L : Lay enc k) (Y : Ty S T z k nb) (w : World) (ty : TypeId) (base : Nat) (v : Value) (l : List α) (hown : Own enc k T w base v l) (u : Value) (r : List α) (hr : Rd enc k w w.heap.size u r)
    (hlen : l.length + r.length ≤ 100000000) (hbase : base ≤ w.heap.size) :
    ∃ v' w', (Builtin.append_ #[S, S] ty #[v, u]).run Try.prog w = .ok v' w' ∧ Own enc k T w' base v' (l ++ r) ∧ w.grownBy w' v.ownBlock ∧ (v'.ownBlock = v.ownBlock ∨ v'.ownBlock = some w.heap.size) ∧ (v' = .slice none 0 0 ↔ v = .slice none 0 0 ∧ r = []) := by
  obtain ⟨i, hi, hz, hs, hby⟩ := Y.parts
  have hnb := Y.nb
  obtain ⟨a, c, rfl, hlc, hc, hnil, hcell⟩ := hr
  cases a with
  | none =>
    have hc0 := hnil rfl
    subst hc0
    have hr0 : r = [] := List.eq_nil_of_length_eq_zero (by omega)
    subst hr0
    refine ⟨v, w, run_append_owned_none w base S ty T i k Y.sl hi v l.length (cells enc l) hown, ?_, World.grownBy.refl _ _, .inl rfl, by simp⟩
    rw [List.append_nil]; exact hown
  | some ad =>
    have hnews : ∀ j q, (cells enc r)[j]? = some q → w.cell? (ad.add j) = some q := by
      intro j q hq
      obtain ⟨i, x, m, hx, hm, rfl, hq'⟩ := cells_at L r j q hq
      have hkl := (List.getElem?_eq_some_iff.1 hx).1
      obtain ⟨b, off, e, _, hcc⟩ := hcell (by omega)
      injection e with e
      subst e
      rw [plain, ← Nat.add_assoc]
      exact hcc i x m q hx hq'
    have hmul : (l.length + r.length) * nb ≤ 100000000 * 1000 := Nat.mul_le_mul hlen hnb
    obtain ⟨v', w', hrun, h2, h3, h4, h5⟩ := run_append_own_at (P := Try.prog) w base S ty T i _ k nb Y.sl hi hz hs hby Y.zs L.pos v l.length (cells enc l) hown ad r.length c (cells enc r)
      (by rw [cells_len L]) hnews (cells_one L r) (by simp only [maxLen]; omega) (by omega) hbase
    refine ⟨v', w', hrun, ?_, h3, h5, ?_⟩
    · unfold Own; rw [List.length_append, cells_append]; exact h2
    · rw [h4]; exact ⟨fun ⟨h, e⟩ => ⟨h, List.eq_nil_of_length_eq_zero e⟩, fun ⟨h, e⟩ => ⟨h, by rw [e]; rfl⟩⟩
theorem below_of_own {enc : α → List Value} {k : Nat} {T : TypeId} {w w' : World} {base : Nat} {v : Value} {l : List α} (hown : Own enc k T w base v l) (h3 : w.grownBy w' v.ownBlock) (hbase : base ≤ w.heap.size) : Below base w w' :=
  (Below.refl _ _).grown h3 hbase (fun g hg => (hown.lt g hg).1)
theorem wpList_app {enc : α → List Value} {k : Nat} {S T : TypeId} {z : Value} {nb : Nat} (L : Lay enc k) (Y : Ty S T z k nb) {w : World} {ops : Array Oper} {rest : List Oper} {o : Oper} {a : Act} {Q : Exit → Act → World → Prop} (hgd : o.guard = none) (s x : Operand)
    (ho : o.op = .call { callee := .builtin .append, args := #[s, x], argTypes := #[S, S] })
    (base : Nat) (v : Value) (l : List α) (hs : a.eval s = v) (hown : Own enc k T w base v l) (u : Value) (r : List α) (hx : a.eval x = u) (hr : Rd enc k w w.heap.size u r)
    (hlen : l.length + r.length ≤ 100000000) (hbase : base ≤ w.heap.size)
    (h : ∀ v' w', Own enc k T w' base v' (l ++ r) → w.grownBy w' v.ownBlock → (v'.ownBlock = v.ownBlock ∨ v'.ownBlock = some w.heap.size) → (v' = .slice none 0 0 ↔ v = .slice none 0 0 ∧ r = []) → wpList Try.prog ops Q rest (a.put o.dst v') w') : wpList Try.prog ops Q (o :: rest) a w := by
  refine wpList_plain hgd fun K hK => ?_
  obtain ⟨v', w', hrun, h2, h3, h4, h5⟩ := run_app L Y w o.type base v l hown u r hr hlen hbase
  unfold Oper.wp execOp
  simp only [ho, resolve, invoke, builtin, Sem.run_bind, Sem.run_pure, Result.andThen_ok, List.map_toArray, List.map_cons, List.map_nil, hs, hx, hrun]
  exact hK _ _ (h v' w' h2 h3 h4 h5)
theorem step_app {enc : α → List Value} {k : Nat} {S T : TypeId} {z : Value} {nb : Nat} (L : Lay enc k) (Y : Ty S T z k nb) {w : World} {ops : Array Oper} {o : Oper} {a : Act} {K : Act → World → Prop} {Q : Exit → Act → World → Prop} {E : Prop} (hgd : o.guard = none) (s x : Operand)
    (ho : o.op = .call { callee := .builtin .append, args := #[s, x], argTypes := #[S, S] })
    (base : Nat) (v : Value) (l : List α) (hs : a.eval s = v) (hown : Own enc k T w base v l) (u : Value) (r : List α) (hx : a.eval x = u) (hr : Rd enc k w w.heap.size u r)
    (hlen : l.length + r.length ≤ 100000000) (hbase : base ≤ w.heap.size)
    (h : ∀ v' w', Own enc k T w' base v' (l ++ r) → w.grownBy w' v.ownBlock → (v'.ownBlock = v.ownBlock ∨ v'.ownBlock = some w.heap.size) → K (a.put o.dst v') w') : if Region.wanted o (yielded ops a.tmps) = true then Oper.wp Try.prog o a w K Q else E := by
  have hw : Region.wanted o (yielded ops a.tmps) = true := by simp [Region.wanted, hgd]
  rw [if_pos hw]
  obtain ⟨v', w', hrun, h2, h3, h4, _⟩ := run_app L Y w o.type base v l hown u r hr hlen hbase
  unfold Oper.wp execOp
  simp only [ho, resolve, invoke, builtin, Sem.run_bind, Sem.run_pure, Result.andThen_ok, List.map_toArray, List.map_cons, List.map_nil, hs, hx, hrun]
  exact h v' w' h2 h3 h4
/-- A cut reads as a cut. -/
theorem rd_sliced {enc : α → List Value} {k : Nat} (w : World) (B : Nat) (a : Option Addr) (l : List α) (n c p m : Nat) (h : Rd enc k w B (.slice a n c) l) (hn : l.length = n) (hk : p ≤ m) (hm : m ≤ l.length) :
    Rd enc k w B (.slice (if c = p then a else a.map (·.add (p * k))) (m - p) (c - p)) ((l.take m).drop p) := by
  subst hn
  obtain ⟨a', c', e, h1, h2, h3, h5⟩ := h
  injection e with e1 e2 e3
  subst e1 e3
  have hlen : ((l.take m).drop p).length = m - p := by rw [List.length_drop, List.length_take]; omega
  refine ⟨_, _, by rw [hlen], by rw [hlen]; omega, by omega, fun hn => ?_, fun hp' => ?_⟩
  · by_cases e : c = p
    · omega
    · rw [if_neg e] at hn
      have := h3 (by simpa using hn)
      omega
  · rw [hlen] at hp'
    obtain ⟨b, off, rfl, hb, hc⟩ := h5 (by omega)
    refine ⟨b, off + p * k, by rw [if_neg (by omega)]; simp [plain], hb, fun i x j u hi hj => ?_⟩
    have hj' : l[p + i]? = some x := by
      rw [List.getElem?_drop, List.getElem?_take] at hi
      split at hi
      · exact hi
      · cases hi
    have := hc (p + i) x j u hj' hj
    rw [Nat.add_mul, ← Nat.add_assoc] at this
    exact this
theorem sz_of {S T : TypeId} {z : Value} {k nb : Nat} (Y : Ty S T z k nb) (w : World) : (sizeOf T).run Try.prog w = .ok k w := by
  obtain ⟨i, hi, _, hs, _⟩ := Y.parts
  simp [sizeOf, typeInfo, hi, hs]
/-- A slice, from a place on; up to a place; between two. -/
theorem cut_from {enc : α → List Value} {k : Nat} {S T : TypeId} {z : Value} {nb : Nat} (Y : Ty S T z k nb) (w : World) (B : Nat) (a : Option Addr) (l : List α) (n c p : Nat) (h : Rd enc k w B (.slice a n c) l) (hn : l.length = n) (hp : p ≤ l.length) :
    ∃ u, (∀ w', (Instr.slice S (.slice a n c) (some (.int .i64 (p : Int))) none none).run Try.prog w' = .ok u w') ∧ Rd enc k w B u (l.drop p) := by
  refine ⟨_, fun w' => ?_, by have := rd_sliced w B a l n c p l.length h hn hp (Nat.le_refl _); rw [List.take_length] at this; exact this⟩
  rw [run_slice_l w' _ _ _ _ (Y.el.symm ▸ Y.sl) _ _ (by omega) (by omega), Y.el, sz_of Y]
  simp [sliced, hn]
theorem cut_to {enc : α → List Value} {k : Nat} {S T : TypeId} {z : Value} {nb : Nat} (Y : Ty S T z k nb) (w : World) (B : Nat) (a : Option Addr) (l : List α) (n c p : Nat) (h : Rd enc k w B (.slice a n c) l) (hn : l.length = n) (hp : p ≤ l.length) :
    ∃ u, (∀ w', (Instr.slice S (.slice a n c) none (some (.int .i64 (p : Int))) none).run Try.prog w' = .ok u w') ∧ Rd enc k w B u (l.take p) := by
  obtain ⟨_, _, e, hlc, _⟩ := id h
  injection e with _ e2 e3
  subst e3
  refine ⟨_, fun w' => ?_, by have := rd_sliced w B a l n c 0 p h hn (Nat.zero_le _) hp; rw [List.drop_zero] at this; exact this⟩
  rw [run_slice_h w' _ _ _ _ (Y.el.symm ▸ Y.sl) _ _ (by omega) (by omega), Y.el, sz_of Y]
  simp [sliced]
theorem cut_mid {enc : α → List Value} {k : Nat} {S T : TypeId} {z : Value} {nb : Nat} (Y : Ty S T z k nb) (w : World) (B : Nat) (a : Option Addr) (l : List α) (n c p m : Nat) (h : Rd enc k w B (.slice a n c) l) (hn : l.length = n) (hp : p ≤ m) (hm : m ≤ l.length) :
    ∃ u, (∀ w', (Instr.slice S (.slice a n c) (some (.int .i64 (p : Int))) (some (.int .i64 (m : Int))) none).run Try.prog w' = .ok u w') ∧ Rd enc k w B u ((l.take m).drop p) := by
  obtain ⟨_, _, e, hlc, _⟩ := id h
  injection e with _ e2 e3
  subst e3
  refine ⟨_, fun w' => ?_, rd_sliced w B a l n c p m h hn hp hm⟩
  rw [run_slice_lh w' _ _ _ _ (Y.el.symm ▸ Y.sl) _ _ _ _ (by omega) (by omega) (by omega), Y.el, sz_of Y]
  simp [sliced]
end Go.Proofs.Ytenfjmdajlhfoaa.Gn
