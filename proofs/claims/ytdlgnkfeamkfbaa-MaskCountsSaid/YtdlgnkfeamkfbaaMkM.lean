/- Bools and bytes in memory: slices of bools, rows that were just made, cells that are stored. -/
import Derived.Test.YtdlgnkfeamkfbaaGen
import Derived.Test.YtdlgnkfeamkfbaaCopy
import Derived.Test.YtdlgnkfeamkfbaaMkP
import Derived.Laws.OwnMore
namespace Go.Proofs.Ytdlgnkfeamkfbaa
open Go.RowKit
set_option linter.unusedVariables false
set_option maxRecDepth 100000

def eb (b : Bool) : List Value := [.bool b]
theorem ebL : Gn.Lay eb 1 := ⟨fun _ => rfl, fun x v hv => by simp [eb] at hv; subst hv; rfl, by omega⟩
theorem ebY : Gn.Ty 22 4 (.bool false) 1 1 := ⟨Try.underlying22, by kernel_rfl, by kernel_rfl, rfl, by omega⟩
def RdB (w : World) (B : Nat) (v : Value) (l : List Bool) : Prop := Gn.Rd eb 1 w B v l
def OwnB (w : World) (base : Nat) (v : Value) (l : List Bool) : Prop := Gn.Own eb 1 4 w base v l
theorem RdB.of {w : World} {base : Nat} {v : Value} {l : List Bool} (h : OwnB w base v l) : RdB w w.heap.size v l := Gn.Own.rd ebL h
theorem cells_eb (l : List Bool) : Gn.cells eb l = l.map Value.bool := by
  induction l with
  | nil => rfl
  | cons x l ih => rw [Gn.cells_cons, ih]; rfl
theorem rdB_cell {W w : World} {B n c : Nat} {ad : Option Addr} {l : List Bool} (h : RdB W B (.slice ad n c) l) (hb : Below B W w) {i : Nat} {x : Bool} (hi : l[i]? = some x) :
    ∃ b off, ad = some ⟨b, off, none⟩ ∧ w.cell? ⟨b, off + i, none⟩ = some (.bool x) := by
  obtain ⟨hl, e⟩ := List.getElem?_eq_some_iff.1 hi
  obtain ⟨b, off, rfl, _, hc⟩ := Gn.Rd.at h hb hl
  rw [e] at hc
  have := hc 0 _ rfl
  rw [Nat.mul_one, Nat.add_zero] at this
  exact ⟨b, off, rfl, this⟩
theorem rd_cell {W w : World} {B n c : Nat} {ad : Option Addr} {l : List Nat} (h : Rd W B (.slice ad n c) l) (hb : Below B W w) {i : Nat} (hi : i < l.length) :
    ∃ b off, ad = some ⟨b, off, none⟩ ∧ w.cell? ⟨b, off + i, none⟩ = some (.int .u8 (l.getD i 0 : Nat)) ∧ l.getD i 0 < 256 := by
  obtain ⟨a, c', e, _, _, _, h4, h5⟩ := h
  injection e with e1 e2 e3
  subst e1
  obtain ⟨b, off, rfl, hlt, hc⟩ := h5 (by omega)
  exact ⟨b, off, rfl, (hb.cell (p := ⟨b, off + i, none⟩) hlt).trans (hc i hi), h4 _ (by simp [List.getElem?_eq_getElem hi])⟩

theorem made_one (z : Value) (v : Value) (n : Nat) (h : z.cells = #[v]) : madeCells z.cells n = (List.replicate n v).toArray := by
  rw [h]
  apply Array.ext_getElem?
  intro j
  by_cases hj : j < n
  · rw [Array.getElem?_eq_getElem (by simpa [madeCells] using hj)]
    simp [madeCells, hj, Nat.mod_one]
  · rw [Array.getElem?_eq_none (by simp [madeCells]; omega)]
    simp [hj]
theorem make_byte (s : Nat) (hs : s ≤ 16000000) (w : World) :
    (Instr.makeSlice 24 (.int .i64 (s : Nat)) (.int .i64 (s : Nat))).run Try.prog w = .ok (.slice (some ⟨w.heap.size, 0, none⟩) s s) (w.alloc (.cells (vals (List.replicate s 0)).toArray 5)) := by
  obtain ⟨i, hi, hz, hsz, hby⟩ := byte_parts
  have h := run_makeSlice w 24 5 i (.int .u8 0) Try.underlying24 hi hz .i64 .i64 (s : Nat) (s : Nat) (by omega) (by omega) (by rw [hsz]; simp; omega) (by rw [hby]; omega) (by omega)
  rw [h, hsz, made_one _ (.int .u8 0) _ rfl]
  simp [vals]
theorem make_bool (s : Nat) (hs : s ≤ 16000000) (w : World) :
    (Instr.makeSlice 22 (.int .i64 (s : Nat)) (.int .i64 (s : Nat))).run Try.prog w = .ok (.slice (some ⟨w.heap.size, 0, none⟩) s s) (w.alloc (.cells (Gn.cells eb (List.replicate s false)).toArray 4)) := by
  obtain ⟨i, hi, hz, hsz, hby⟩ := ebY.parts
  have h := run_makeSlice w 22 4 i (.bool false) Try.underlying22 hi hz .i64 .i64 (s : Nat) (s : Nat) (by omega) (by omega) (by rw [hsz]; simp; omega) (by rw [hby]; omega) (by omega)
  rw [h, hsz, made_one _ (.bool false) _ rfl, cells_eb]
  simp
/-- A row of bytes that was laid. -/
theorem own_lit (w : World) (base : Nat) (l : List Nat) (hb : ∀ x ∈ l, x < 256) (hm : l.length ≤ maxLen) (hw : base ≤ w.heap.size) {n : Nat} (hn : n = l.length) : Own (w.alloc (.cells (vals l).toArray 5)) base (.slice (some ⟨w.heap.size, 0, none⟩) n n) l := by
  subst hn
  refine ⟨⟨by simp [vals], .inr ⟨w.heap.size, l.length, _, rfl, hw, heap_alloc_new w _, Nat.le_refl _, hm, by simp [vals], ?_⟩⟩, hb⟩
  show List.take _ (vals l) = _
  rw [List.take_of_length_le (by simp [vals])]
theorem ownB_lit (w : World) (base : Nat) (l : List Bool) (hm : l.length ≤ maxLen) (hw : base ≤ w.heap.size) {n : Nat} (hn : n = l.length) : OwnB (w.alloc (.cells (Gn.cells eb l).toArray 4)) base (.slice (some ⟨w.heap.size, 0, none⟩) n n) l :=
  Gn.Own.lit ebL w base l _ n n rfl hn rfl hm hw
/-- Owned bytes, one of them stored. -/
theorem Own.stored {w : World} {base g cap n : Nat} {l : List Nat} (h : Own w base (.slice (some ⟨g, 0, none⟩) n cap) l) (hn : l.length = n) (k x : Nat) (hx : x < 256) :
    Own (w.setCell ⟨g, k, none⟩ (.int .u8 (x : Int))) base (.slice (some ⟨g, 0, none⟩) n cap) (l.set k x) := by
  subst hn
  refine ⟨?_, fun y hy => ?_⟩
  · have := (h.1.stored k (.int .u8 (x : Int))).1
    rw [List.length_set]
    unfold vals at this ⊢
    rw [List.map_set]
    exact this
  · rcases List.mem_or_eq_of_mem_set hy with hy | rfl
    · exact h.2 y hy
    · exact hx
theorem Own.form {w : World} {base : Nat} {v : Value} {l : List Nat} (h : Own w base v l) (hn : 0 < l.length) : ∃ g cap, v = .slice (some ⟨g, 0, none⟩) l.length cap ∧ base ≤ g ∧ l.length ≤ cap ∧ cap ≤ maxLen := by
  obtain ⟨⟨h0, h1⟩, hb⟩ := h
  rcases h1 with ⟨_, h2⟩ | ⟨g, cap, cur, rfl, hg, hh, h2, h3, h4, h5⟩
  · omega
  · exact ⟨g, cap, rfl, hg, h2, h3⟩
theorem Own.cell {w : World} {base g cap n : Nat} {l : List Nat} (h : Own w base (.slice (some ⟨g, 0, none⟩) n cap) l) (hn : l.length = n) (k : Nat) (hk : k < n) :
    w.cell? ⟨g, k, none⟩ = some (.int .u8 (l.getD k 0 : Nat)) ∧ l.getD k 0 < 256 := by
  subst hn
  refine ⟨?_, h.2 _ (by simp [List.getElem?_eq_getElem hk])⟩
  rw [h.1.cellAt k (by omega)]
  simp [vals, List.getElem?_eq_getElem hk]
theorem Own.melt {w : World} {base g cap n : Nat} {l : List Nat} (h : Own w base (.slice (some ⟨g, 0, none⟩) n cap) l) (hn : l.length = n) (k : Nat) : w.frozen? ⟨g, k, none⟩ = false := by
  subst hn
  exact h.1.frozenAt k
theorem OwnB.stored {w : World} {base g cap n : Nat} {l : List Bool} (h : OwnB w base (.slice (some ⟨g, 0, none⟩) n cap) l) (hn : l.length = n) (k : Nat) (x : Bool) :
    OwnB (w.setCell ⟨g, k, none⟩ (.bool x)) base (.slice (some ⟨g, 0, none⟩) n cap) (l.set k x) := by
  subst hn
  unfold OwnB Gn.Own at h ⊢
  have := (h.stored k (.bool x)).1
  rw [List.length_set]
  rw [cells_eb] at this ⊢
  rw [List.map_set]
  exact this
theorem OwnB.cell {w : World} {base g cap n : Nat} {l : List Bool} (h : OwnB w base (.slice (some ⟨g, 0, none⟩) n cap) l) (hn : l.length = n) (k : Nat) (hk : k < n) :
    w.cell? ⟨g, k, none⟩ = some (.bool (l.getD k false)) := by
  subst hn
  unfold OwnB Gn.Own at h
  rw [h.cellAt k (by omega), cells_eb]
  simp [List.getElem?_eq_getElem hk]
theorem OwnB.melt {w : World} {base g cap n : Nat} {l : List Bool} (h : OwnB w base (.slice (some ⟨g, 0, none⟩) n cap) l) (hn : l.length = n) (k : Nat) : w.frozen? ⟨g, k, none⟩ = false := by
  subst hn
  exact World.ownsRow.frozenAt h k
theorem OwnB.form {w : World} {base : Nat} {v : Value} {l : List Bool} (h : OwnB w base v l) (hn : 0 < l.length) : ∃ g cap, v = .slice (some ⟨g, 0, none⟩) l.length cap ∧ base ≤ g ∧ g < w.heap.size ∧ l.length ≤ cap ∧ cap ≤ maxLen := by
  have hlt := Gn.Own.lt h
  obtain ⟨h0, h1⟩ := h
  rcases h1 with ⟨_, h2⟩ | ⟨g, cap, cur, rfl, hg, hh, h2, h3, h4, h5⟩
  · omega
  · exact ⟨g, cap, rfl, hg, (hlt g rfl).2, h2, h3⟩
/-- A slice's beginning, by another length. -/
theorem Rd.takes {w : World} {B : Nat} {a : Option Addr} {l : List Nat} {n c : Nat} (h : Rd w B (.slice a n c) l) (hn : l.length = n) (k : Nat) (hk : k ≤ n) : Rd w B (.slice a k c) (l.take k) := by
  subst hn
  have := h.take k
  rwa [List.length_take, Nat.min_eq_left hk] at this
end Go.Proofs.Ytdlgnkfeamkfbaa
