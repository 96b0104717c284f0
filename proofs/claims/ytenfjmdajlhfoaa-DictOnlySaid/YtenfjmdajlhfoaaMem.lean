/- Words for lists of bytes in memory: a slice that reads as a list, a slice that a call owns, and append in these words. -/
import Derived.Test.YtenfjmdajlhfoaaChecked
import Derived.WalkKit
import Derived.WalkSpells
import Derived.WalkLawsBesides
import Derived.Lib.Hide
import Derived.Maps.AppendAt
import Derived.Deep.AppendLies
import Derived.Laws.AppendOwnNone
import Derived.Laws.BytesArg
namespace Go.Proofs.Ytenfjmdajlhfoaa
open Go.RowKit
set_option linter.unusedVariables false

theorem add_plain (b off k : Nat) : (⟨b, off, none⟩ : Addr).add k = ⟨b, off + k, none⟩ := by unfold Addr.add; split <;> simp_all

/-- Bytes, as cells. -/
def vals (l : List Nat) : List Value := l.map fun (x : Nat) => Value.int .u8 (x : Int)
theorem vals_length (l : List Nat) : (vals l).length = l.length := by simp [vals]
theorem vals_append (l r : List Nat) : vals (l ++ r) = vals l ++ vals r := by simp [vals]
theorem vals_get {l : List Nat} {j : Nat} {u : Value} (h : (vals l)[j]? = some u) : j < l.length ∧ u = .int .u8 (l.getD j 0 : Nat) := by
  have hj : j < l.length := by
    rcases Nat.lt_or_ge j l.length with h' | h'
    · exact h'
    · rw [List.getElem?_eq_none (by rw [vals_length]; exact h')] at h; cases h
  refine ⟨hj, ?_⟩
  simp [vals, List.getElem?_eq_getElem hj] at h
  simp [List.getElem?_eq_getElem hj, h]
theorem vals_one (l : List Nat) : ∀ u ∈ vals l, u.oneCell' = true := by
  intro u hu
  obtain ⟨x, _, rfl⟩ := List.mem_map.1 hu
  rfl

/-- A slice that reads as l; what it reads lies below block B. -/
def Rd (w : World) (B : Nat) (v : Value) (l : List Nat) : Prop :=
  ∃ a c, v = .slice a l.length c ∧ l.length ≤ c ∧ c ≤ maxLen ∧ (a = none → c = 0) ∧ (∀ x ∈ l, x < 256) ∧
    (0 < l.length → ∃ b off, a = some ⟨b, off, none⟩ ∧ b < B ∧ ∀ k, k < l.length → w.cell? ⟨b, off + k, none⟩ = some (.int .u8 (l.getD k 0 : Nat)))
/-- A slice that a call owns, from block 'base' on; it reads as l. -/
def Own (w : World) (base : Nat) (v : Value) (l : List Nat) : Prop := w.ownsRow base 5 1 v l.length (vals l) ∧ ∀ x ∈ l, x < 256

theorem Rd.bytes {w : World} {B : Nat} {v : Value} {l : List Nat} (h : Rd w B v l) : ∀ x ∈ l, x < 256 := by
  obtain ⟨_, _, _, _, _, _, hb, _⟩ := h; exact hb
theorem Rd.len {w : World} {B : Nat} {v : Value} {l : List Nat} (h : Rd w B v l) : l.length ≤ maxLen := by
  obtain ⟨_, c, _, h1, h2, _⟩ := h; omega
theorem Rd.below {w w' : World} {B B' : Nat} {v : Value} {l : List Nat} (h : Rd w B v l) (hb : Below B' w w') (hB : B ≤ B') : Rd w' B v l := by
  obtain ⟨a, c, rfl, h1, h2, h3, h4, h5⟩ := h
  refine ⟨a, c, rfl, h1, h2, h3, h4, fun hp => ?_⟩
  obtain ⟨b, off, rfl, hlt, hc⟩ := h5 hp
  exact ⟨b, off, rfl, hlt, fun k hk => (hb.cell (p := ⟨b, off + k, none⟩) (by simp; omega)).trans (hc k hk)⟩
theorem Rd.more {w : World} {B B' : Nat} {v : Value} {l : List Nat} (h : Rd w B v l) (hB : B ≤ B') : Rd w B' v l := by
  obtain ⟨a, c, rfl, h1, h2, h3, h4, h5⟩ := h
  refine ⟨a, c, rfl, h1, h2, h3, h4, fun hp => ?_⟩
  obtain ⟨b, off, rfl, hlt, hc⟩ := h5 hp
  exact ⟨b, off, rfl, by omega, hc⟩
theorem Rd.nil (w : World) (B : Nat) : Rd w B (.slice none 0 0) [] := ⟨none, 0, rfl, by simp, by simp, fun _ => rfl, by simp, by simp⟩
/-- Read on, in a later world. -/
theorem Rd.later {w w' : World} {B : Nat} {v : Value} {l : List Nat} (h : Rd w B v l) (hB : B ≤ w.heap.size) (hb : Below w.heap.size w w') : Rd w' w'.heap.size v l :=
  (h.below hb hB).more (Nat.le_trans hB hb.size)
theorem Own.rd {w : World} {base : Nat} {v : Value} {l : List Nat} (h : Own w base v l) : Rd w w.heap.size v l := by
  obtain ⟨⟨h0, h1⟩, hb⟩ := h
  rcases h1 with ⟨rfl, hn⟩ | ⟨g, cap, cur, rfl, hg, hh, h2, h3, h4, h5⟩
  · obtain rfl : l = [] := List.eq_nil_of_length_eq_zero hn
    exact Rd.nil _ _
  · refine ⟨_, cap, rfl, h2, h3, by simp, hb, fun hp => ⟨g, 0, rfl, ?_, fun k hk => ?_⟩⟩
    · rcases Nat.lt_or_ge g w.heap.size with hlt | hge
      · exact hlt
      · rw [Array.getElem?_eq_none hge] at hh; cases hh
    · have hc := World.ownsRow.cells (w := w) (base := base) (e := 5) (size := 1) (v := .slice (some ⟨g, 0, none⟩) l.length cap) (n := l.length) (xs := vals l)
        ⟨h0, .inr ⟨g, cap, cur, rfl, hg, hh, h2, h3, h4, h5⟩⟩ (g := g) rfl k (.int .u8 (l.getD k 0 : Nat)) (by simp [vals, List.getElem?_eq_getElem hk])
      rw [add_plain] at hc
      exact hc
theorem Own.later {w w' : World} {base : Nat} {v : Value} {l : List Nat} (h : Own w base v l) (hb : Below w.heap.size w w') : Own w' base v l := by
  obtain ⟨⟨h0, h1⟩, hbt⟩ := h
  refine ⟨⟨h0, ?_⟩, hbt⟩
  rcases h1 with h1 | ⟨g, cap, cur, rfl, hg, hh, r⟩
  · exact .inl h1
  · have hlt : g < w.heap.size := by
      rcases Nat.lt_or_ge g w.heap.size with hlt | hge
      · exact hlt
      · rw [Array.getElem?_eq_none hge] at hh; cases hh
    exact .inr ⟨g, cap, cur, rfl, hg, (hb.block g hlt).trans hh, r⟩
theorem Own.nil (w : World) (base : Nat) : Own w base (.slice none 0 0) [] := ⟨World.ownsRow_nil w base _ 1, by simp⟩
theorem Own.lower {w : World} {base base' : Nat} {v : Value} {l : List Nat} (h : Own w base v l) (hB : base' ≤ base) : Own w base' v l := by
  obtain ⟨⟨h0, h1⟩, hbt⟩ := h
  refine ⟨⟨h0, ?_⟩, hbt⟩
  rcases h1 with h1 | ⟨g, cap, cur, rfl, hg, r⟩
  · exact .inl h1
  · exact .inr ⟨g, cap, cur, rfl, by omega, r⟩

theorem byte_info : (Try.prog.info? 5).map (fun i => (i.zero, i.size, i.bytes)) = some (some (.int .u8 0), 1, 1) := by kernel_rfl
theorem byte_parts : ∃ i, Try.prog.info? 5 = some i ∧ i.zero = some (.int .u8 0) ∧ i.size = 1 ∧ i.bytes = 1 := by
  have h := byte_info
  cases hi : Try.prog.info? 5 with
  | none => rw [hi] at h; cases h
  | some i =>
    rw [hi] at h
    simp at h
    exact ⟨i, rfl, h.1, h.2.1, h.2.2⟩

/-- append onto what is owned, of whatever reads as a list. -/
theorem run_app (w : World) (ty : TypeId) (base : Nat) (v : Value) (l : List Nat) (hown : Own w base v l) (u : Value) (r : List Nat) (hr : Rd w w.heap.size u r)
    (hlen : l.length + r.length ≤ 1000000000) (hbase : base ≤ w.heap.size) :
    ∃ v' w', (Builtin.append_ #[23, 23] ty #[v, u]).run Try.prog w = .ok v' w' ∧ Own w' base v' (l ++ r) ∧ Below base w w' := by
  obtain ⟨i, hi, hz, hs, hby⟩ := byte_parts
  have hbt : ∀ x ∈ l ++ r, x < 256 := fun x hx => (List.mem_append.1 hx).elim (hown.2 x) (hr.bytes x)
  obtain ⟨a, c, rfl, hlc, hc, hnil, _, hcell⟩ := hr
  cases a with
  | none =>
    have hc0 := hnil rfl
    subst hc0
    have hr0 : r = [] := List.eq_nil_of_length_eq_zero (by omega)
    subst hr0
    refine ⟨v, w, run_append_owned_none w base 23 ty 5 i 1 Try.underlying23 hi v l.length (vals l) hown.1, ?_, Below.refl _ _⟩
    rw [List.append_nil]; exact hown
  | some ad =>
    have hnews : ∀ j q, (vals r)[j]? = some q → w.cell? (ad.add j) = some q := by
      intro j q hq
      obtain ⟨hj, rfl⟩ := vals_get hq
      obtain ⟨b, off, e, _, hcc⟩ := hcell (by omega)
      injection e with e
      subst e
      rw [add_plain]
      exact hcc j hj
    obtain ⟨v', w', hrun, h2, h3, _, h5⟩ := run_append_own_at (P := Try.prog) w base 23 ty 5 i _ 1 1 Try.underlying23 hi hz hs hby rfl (by omega) v l.length (vals l) hown.1 ad r.length c (vals r)
      (by rw [vals_length]; omega) hnews (vals_one r) (by simp only [maxLen]; omega) (by omega) hbase
    refine ⟨v', w', hrun, ⟨?_, hbt⟩, ?_⟩
    · rw [List.length_append, vals_append]; exact h2
    · exact (Below.refl _ _).grown h3 hbase (fun k hk => (hown.1.lt k hk).1)

theorem wpList_app {w : World} {ops : Array Oper} {rest : List Oper} {o : Oper} {a : Act} {Q : Exit → Act → World → Prop} (hgd : o.guard = none) (s x : Operand)
    (ho : o.op = .call { callee := .builtin .append, args := #[s, x], argTypes := #[23, 23] })
    (base : Nat) (v : Value) (l : List Nat) (hs : a.eval s = v) (hown : Own w base v l) (u : Value) (r : List Nat) (hx : a.eval x = u) (hr : Rd w w.heap.size u r)
    (hlen : l.length + r.length ≤ 1000000000) (hbase : base ≤ w.heap.size)
    (h : ∀ v' w', Own w' base v' (l ++ r) → Below base w w' → wpList Try.prog ops Q rest (a.put o.dst v') w') : wpList Try.prog ops Q (o :: rest) a w := by
  refine wpList_plain hgd fun K hK => ?_
  obtain ⟨v', w', hrun, h2, h3⟩ := run_app w o.type base v l hown u r hr hlen hbase
  unfold Oper.wp execOp
  simp only [ho, resolve, invoke, builtin, Sem.run_bind, Sem.run_pure, Result.andThen_ok, List.map_toArray, List.map_cons, List.map_nil, hs, hx, hrun]
  exact hK _ _ (h v' w' h2 h3)

/-- A string of bytes. -/
def str (l : List Nat) : ByteArray := strOfNums (l.map fun (x : Nat) => (x : Int))
theorem str_eq (l r : List Nat) (hl : ∀ x ∈ l, x < 256) (hr : ∀ x ∈ r, x < 256) : str l = str r ↔ l = r := by
  refine ⟨fun h => ?_, fun h => by rw [h]⟩
  have h1 : (str l).data.toList = (str r).data.toList := by rw [h]
  simp only [str, strOfNums_data, List.map_map] at h1
  have key : ∀ l : List Nat, (∀ x ∈ l, x < 256) → (l.map ((fun (n : Int) => UInt8.ofNat n.toNat) ∘ fun (x : Nat) => (x : Int))).map UInt8.toNat = l := by
    intro l hl
    rw [List.map_map]
    conv => rhs; rw [← List.map_id l]
    refine List.map_congr_left fun x hx => ?_
    have := hl x hx
    simp
    omega
  rw [← key l hl, ← key r hr, h1]
theorem run_str (w : World) (B : Nat) (v : Value) (l : List Nat) (h : Rd w B v l) : (convert 23 9 v).run Try.prog w = .ok (.string (str l)) w := by
  obtain ⟨a, c, rfl, _, _, hnil, _, hcell⟩ := h
  have h0e : str [] = ByteArray.empty := by decide +kernel
  rcases Nat.eq_zero_or_pos l.length with h0 | h0
  · obtain rfl : l = [] := List.eq_nil_of_length_eq_zero h0
    rw [h0e]
    cases a with
    | none => exact run_convert_bytes_nil w 23 5 Try.underlying23 Try.underlying5 0 c 9 Try.underlying9
    | some ad =>
      rw [run_convert_bytes_string w 23 9 5 _ _ _ Try.underlying23 Try.underlying5 Try.underlying9]
      refine (run_bytesToString w ad 0 c [] ?_).trans rfl
      exact run_loadCells_list w ad [] (by simp)
  · obtain ⟨b, off, rfl, _, hc⟩ := hcell h0
    refine run_convert_bytes_arg w 23 5 Try.underlying23 Try.underlying5 b off l.length c (l.map fun (x : Nat) => (x : Int)) (by simp) (fun i hi => ?_) 9 Try.underlying9
    rw [hc i hi]
    simp [List.getElem?_eq_getElem hi]
end Go.Proofs.Ytenfjmdajlhfoaa
