/- The program's Quote. -/
import Derived.Test.YteklcfimafplbaaDoorRquote
namespace Go.Proofs.YteklcfimafplbaaDoor
open Go.RowKit
set_option linter.unusedVariables false

/-- How things stand while a literal is written: the map, the builder, the iterator. -/
def QS (wb : World) (m b it : Nat) (L : List (Nat × Nat)) (s : ByteArray) (pos : Nat) (acc : List Nat) (w : World) : Prop :=
  IsMap w m L ∧ Bld b b acc w ∧ w.heap[it]? = some (.stringIter s pos) ∧ Below b wb w ∧ m < b ∧ b < it
theorem QS.wrote {wb w w' : World} {m b it : Nat} {L : List (Nat × Nat)} {s : ByteArray} {pos : Nat} {acc acc' : List Nat} (h : QS wb m b it L s pos acc w) (k : Wrote b b acc' w w') : QS wb m b it L s pos acc' w' := by
  obtain ⟨h1, h2, h3, h4, h5, h6⟩ := h
  obtain ⟨k1, k2, k3⟩ := k
  exact ⟨(k2.block m h5).trans h1, k1, k3.iter h3 (by omega), h4.trans k2, h5, h6⟩
theorem QS.iter {wb w : World} {m b it : Nat} {L : List (Nat × Nat)} {s : ByteArray} {pos : Nat} {acc : List Nat} (h : QS wb m b it L s pos acc w) (q : Nat) : QS wb m b it L s q acc (w.iterAt it s q) := by
  obtain ⟨h1, h2, h3, h4, h5, h6⟩ := h
  exact ⟨(Lib.iterAt_other w it m s q (by omega)).trans h1, h2.iterAt h3 q, Lib.iterAt_heap w it s pos q h3, Lib.below_iterAt h4 (by omega) s q, h5, h6⟩
theorem isr_low (r : Nat) (h : r < 128) : Utf.isr r := .inl (by omega)
theorem QS.bld {wb w : World} {m b it : Nat} {L : List (Nat × Nat)} {s : ByteArray} {pos : Nat} {acc : List Nat} (h : QS wb m b it L s pos acc w) : Bld b b acc w := h.2.1
theorem QS.below {wb w : World} {m b it : Nat} {L : List (Nat × Nat)} {s : ByteArray} {pos : Nat} {acc : List Nat} (h : QS wb m b it L s pos acc w) : Below b wb w := h.2.2.2.1
theorem QS.at {wb w : World} {m b it : Nat} {L : List (Nat × Nat)} {s : ByteArray} {pos : Nat} {acc : List Nat} (h : QS wb m b it L s pos acc w) : w.heap[it]? = some (.stringIter s pos) := h.2.2.1
theorem QS.size {wb w : World} {m b it : Nat} {L : List (Nat × Nat)} {s : ByteArray} {pos : Nat} {acc : List Nat} (h : QS wb m b it L s pos acc w) : b ≤ w.heap.size := Nat.le_of_lt h.2.1.lt
theorem qs_rune {wb w : World} {m b it : Nat} {L : List (Nat × Nat)} {s : ByteArray} {pos : Nat} {acc : List Nat} (h : QS wb m b it L s pos acc w) (r : Nat) (x : Int) (hx : x = (r : Nat)) (hr : Utf.isr r) (hl : acc.length ≤ 1000000000) :
    Calls Tryd.prog 135 #[.pointer (some ⟨b, 0, none⟩), .int .i32 x] w fun e w' => (∃ n, e = .returned (.tuple #[.int .i64 n, .nilIface])) ∧ QS wb m b it L s pos (acc ++ Utf.enc r) w' :=
  hx ▸ (writeRune b b acc r w h.2.1 hr hl h.size).mono fun _ _ ⟨he, hw⟩ => ⟨he, h.wrote hw⟩
theorem qs_str {wb w : World} {m b it : Nat} {L : List (Nat × Nat)} {s : ByteArray} {pos : Nat} {acc : List Nat} (h : QS wb m b it L s pos acc w) (t : ByteArray) (l : List Nat) (ht : t.size ≤ 100) (hbl : bl t = l) (hl : acc.length ≤ 1000000000) :
    Calls Tryd.prog 78 #[.pointer (some ⟨b, 0, none⟩), .string t] w fun e w' => (∃ n, e = .returned (.tuple #[.int .i64 n, .nilIface])) ∧ QS wb m b it L s pos (acc ++ l) w' :=
  (writeString b b acc t w h.2.1 ht hl h.size).mono fun _ _ ⟨he, hw⟩ => ⟨he, by rw [← hbl]; exact h.wrote hw⟩

def tidyL : List (Nat × Nat) := [(34, 34), (92, 92), (8, 98), (12, 102), (10, 110), (13, 114), (9, 116)]
theorem look_someI {w : World} {m : Nat} {l : List (Nat × Nat)} (h : IsMap w m l) (k v : Nat) (x y : Int) (hx : x = (k : Nat)) (hy : y = (v : Nat)) (hk : lk l k = some v) :
    (Instr.lookup 150 (.map (some m)) (.int .i32 x) true).run Tryd.prog w = .ok (.tuple #[.int .i32 y, .bool true]) w := by
  subst hx; subst hy; exact look_some h k v hk
theorem lk_tidy_none (r : Nat) (h : r ≠ 34 ∧ r ≠ 92 ∧ r ≠ 8 ∧ r ≠ 12 ∧ r ≠ 10 ∧ r ≠ 13 ∧ r ≠ 9) : lk tidyL r = none := by
  simp [tidyL, lk, h]
theorem upto_rune (l : List Nat) (hl : ∀ x ∈ l, x < 256) (pos : Nat) (h : Utf.nw (l.drop pos) ≠ 0) : upto l (pos + Utf.nw (l.drop pos)) = upto l pos ++ Utf.escR (Utf.nr (l.drop pos)) := by
  obtain ⟨i1, i2, i3, i4⟩ := Utf.nx_some _ (Utf.drop_byte hl pos) h
  unfold upto
  rw [List.take_add, Utf.escs_append, ← Utf.escs_enc]
  have : (l.drop pos).take (Utf.nw (l.drop pos)) = Utf.enc (Utf.nr (l.drop pos)) := by
    conv => lhs; arg 2; rw [i2]
    rw [← i3]; simp
  rw [this]; rfl
theorem paired_tidy (w : World) :
    Calls Tryd.prog 133 #[.string ⟨#[34, 92, 8, 12, 10, 13, 9]⟩, .string ⟨#[34, 92, 98, 102, 110, 114, 116]⟩] w fun e w' => e = .returned (.map (some w.heap.size)) ∧ IsMap w' w.heap.size tidyL ∧ Below w.heap.size w w' := by
  have := paired ⟨#[34, 92, 8, 12, 10, 13, 9]⟩ ⟨#[34, 92, 98, 102, 110, 114, 116]⟩ w 7 rfl rfl (by decide) (by decide)
    (fun i j hij hj => (by decide : ∀ j, j < 7 → ∀ i, i < j → (bl ⟨#[34, 92, 8, 12, 10, 13, 9]⟩).getD i 0 ≠ (bl ⟨#[34, 92, 8, 12, 10, 13, 9]⟩).getD j 0) j hj i hij)
  exact this

end Go.Proofs.YteklcfimafplbaaDoor
