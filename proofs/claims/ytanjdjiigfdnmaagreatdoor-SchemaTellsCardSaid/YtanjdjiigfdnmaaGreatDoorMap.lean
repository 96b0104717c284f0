/- The map of short escapes: what 'paired' makes, and what is looked up in it. -/
import Derived.Test.YtanjdjiigfdnmaaGreatDoorNext
import Derived.Maps.OwnSet
namespace Go.Proofs.YtanjdjiigfdnmaaGreatDoor
open Go.RowKit
set_option linter.unusedVariables false

/-- Entries, in the order in which they came. -/
def ents : Nat → List (Nat × Nat) → List MapEntry
  | _, [] => []
  | i, p :: t => { key := .int .i32 (p.1 : Nat), val := .int .i32 (p.2 : Nat), born := i } :: ents (i + 1) t
theorem ents_snoc : ∀ (i : Nat) (l : List (Nat × Nat)) (p : Nat × Nat), ents i (l ++ [p]) = ents i l ++ [{ key := .int .i32 (p.1 : Nat), val := .int .i32 (p.2 : Nat), born := i + l.length }]
  | i, [], p => by simp [ents]
  | i, q :: t, p => by
    rw [List.cons_append, ents, ents, ents_snoc (i + 1) t p]
    simp; omega
def lk : List (Nat × Nat) → Nat → Option Nat
  | [], _ => none
  | p :: t, x => if x = p.1 then some p.2 else lk t x
theorem find_none (x : Nat) : ∀ (l : List (Nat × Nat)) (i j : Nat), lk l x = none → Instr.findNow (.int .i32) (.int .i32 (x : Nat)) (ents i l) j = some none
  | [], _, _, _ => rfl
  | p :: t, i, j, h => by
    unfold lk at h
    by_cases hx : x = p.1
    · rw [if_pos hx] at h; cases h
    · rw [if_neg hx] at h
      have hb : (((x : Nat) : Int) == ((p.1 : Nat) : Int)) = false := by simp; omega
      simp only [ents, Instr.findNow, Instr.sameNow, if_true, hb]
      exact find_none x t (i + 1) (j + 1) h
theorem find_some (x v : Nat) : ∀ (l : List (Nat × Nat)) (i j : Nat), lk l x = some v → ∃ q, Instr.findNow (.int .i32) (.int .i32 (x : Nat)) (ents i l) j = some (some (q, .int .i32 (v : Nat)))
  | [], _, _, h => by cases h
  | p :: t, i, j, h => by
    unfold lk at h
    by_cases hx : x = p.1
    · rw [if_pos hx] at h
      cases h
      refine ⟨j, ?_⟩
      have hb : (((x : Nat) : Int) == ((p.1 : Nat) : Int)) = true := by simp; omega
      simp only [ents, Instr.findNow, Instr.sameNow, if_true, hb]
    · rw [if_neg hx] at h
      have hb : (((x : Nat) : Int) == ((p.1 : Nat) : Int)) = false := by simp; omega
      simp only [ents, Instr.findNow, Instr.sameNow, if_true, hb]
      exact find_some x v t (i + 1) (j + 1) h
/-- A block that is such a map. -/
def IsMap (w : World) (m : Nat) (l : List (Nat × Nat)) : Prop := w.heap[m]? = some (.map (ents 0 l).toArray l.length)
theorem IsMap.lt {w : World} {m : Nat} {l : List (Nat × Nat)} (h : IsMap w m l) : m < w.heap.size := (Array.getElem?_eq_some_iff.1 h).1
theorem IsMap.later {w w' : World} {m : Nat} {l : List (Nat × Nat)} (h : IsMap w m l) (hb : Below w.heap.size w w') : IsMap w' m l := (hb.block m h.lt).trans h
theorem IsMap.touch {S : Nat → Prop} {w w' : World} {m : Nat} {l : List (Nat × Nat)} (h : IsMap w m l) (ht : Touch S w w') (hn : ¬ S m) : IsMap w' m l := (ht.block m h.lt hn).trans h
theorem check_int (w : World) (b : Bool) (x : Int) : (Instr.checkKey b 10000 21 (.int .i32 x)).run Tryz.prog w = .ok () w := by
  unfold Instr.checkKey
  simp [Sem.run_bind, run_underlying Tryz.underlying21, Result.andThen]
theorem find_key (w : World) (x : Nat) (es : List MapEntry) (r : Option (Nat × Value)) (h : Instr.findNow (.int .i32) (.int .i32 (x : Nat)) es 0 = some r) :
    (Instr.findKey 21 (.int .i32 (x : Nat)) es).run Tryz.prog w = .ok r w := by
  unfold Instr.findKey
  simp [Sem.run_bind, run_underlying Tryz.underlying21, Result.andThen, h]
theorem look_none {w : World} {m : Nat} {l : List (Nat × Nat)} (h : IsMap w m l) (x : Nat) (hx : lk l x = none) :
    (Instr.lookup 179 (.map (some m)) (.int .i32 (x : Nat)) true).run Tryz.prog w = .ok (.tuple #[.int .i32 0, .bool false]) w := by
  unfold Instr.lookup IsMap at *
  simp [Sem.run_bind, run_underlying Tryz.underlying179, Result.andThen, getObj, Sem.run, h, check_int, find_key w x _ _ (find_none x l 0 0 hx), Tryz.zeroValue21]
theorem look_some {w : World} {m : Nat} {l : List (Nat × Nat)} (h : IsMap w m l) (x v : Nat) (hx : lk l x = some v) :
    (Instr.lookup 179 (.map (some m)) (.int .i32 (x : Nat)) true).run Tryz.prog w = .ok (.tuple #[.int .i32 (v : Nat), .bool true]) w := by
  obtain ⟨q, hq⟩ := find_some x v l 0 0 hx
  unfold Instr.lookup IsMap at *
  simp [Sem.run_bind, run_underlying Tryz.underlying179, Result.andThen, getObj, Sem.run, h, check_int, find_key w x _ _ hq]

/-- What a store of a new key leaves. -/
def stored (w : World) (m : Nat) (l : List (Nat × Nat)) (p : Nat × Nat) : World := { w with heap := w.heap.setIfInBounds m (.map (ents 0 (l ++ [p])).toArray (l.length + 1)) }
theorem store_new {w : World} {m : Nat} {l : List (Nat × Nat)} (h : IsMap w m l) (x v : Nat) (hx : lk l x = none) :
    (Instr.mapUpdate 179 (.map (some m)) (.int .i32 (x : Nat)) (.int .i32 (v : Nat))).run Tryz.prog w = .ok () (stored w m l (x, v)) := by
  unfold Instr.mapUpdate IsMap at *
  simp [Sem.run_bind, run_underlying Tryz.underlying179, Result.andThen, getObj, setObj, Sem.run, h, check_int, find_key w x _ _ (find_none x l 0 0 hx), stored, ents_snoc]
theorem IsMap.stored {w : World} {m : Nat} {l : List (Nat × Nat)} (h : IsMap w m l) (p : Nat × Nat) : IsMap (stored w m l p) m (l ++ [p]) := by
  have := h.lt
  unfold IsMap Go.Proofs.YtanjdjiigfdnmaaGreatDoor.stored
  simp [this]
theorem stored_other (w : World) (m : Nat) (l : List (Nat × Nat)) (p : Nat × Nat) (k : Nat) (h : k ≠ m) : (Go.Proofs.YtanjdjiigfdnmaaGreatDoor.stored w m l p).heap[k]? = w.heap[k]? := by
  simp [Go.Proofs.YtanjdjiigfdnmaaGreatDoor.stored, Ne.symm h]
theorem stored_size (w : World) (m : Nat) (l : List (Nat × Nat)) (p : Nat × Nat) : (Go.Proofs.YtanjdjiigfdnmaaGreatDoor.stored w m l p).heap.size = w.heap.size := by simp [Go.Proofs.YtanjdjiigfdnmaaGreatDoor.stored]
theorem below_stored {B : Nat} {a w : World} (h : Below B a w) {m : Nat} (hm : B ≤ m) (l : List (Nat × Nat)) (p : Nat × Nat) : Below B a (Go.Proofs.YtanjdjiigfdnmaaGreatDoor.stored w m l p) :=
  h.trans ⟨rfl, rfl, rfl, by rw [stored_size]; exact Nat.le_refl _, fun k hk => stored_other w m l p k (by omega)⟩
theorem lk_fresh : ∀ (l : List (Nat × Nat)) (x : Nat), (∀ p ∈ l, p.1 ≠ x) → lk l x = none
  | [], _, _ => rfl
  | p :: t, x, h => by
    unfold lk
    rw [if_neg (fun e => h p (List.mem_cons_self ..) e.symm)]
    exact lk_fresh t x fun q hq => h q (List.mem_cons_of_mem _ hq)
/-- The pairs of two texts of one byte a rune. -/
def prs (a b : List Nat) : List (Nat × Nat) := a.zip b
theorem dec_low (l : List Nat) (h : l.getD 0 0 < 128) : Utf.dec l = (l.getD 0 0, 1) := by
  unfold Utf.dec Lib.decodeN
  rw [if_pos h]
set_option maxRecDepth 100000 in
set_option maxHeartbeats 2000000 in
theorem paired (f g : ByteArray) (w : World) (n : Nat) (hf : f.size = n) (hg : g.size = n) (hn : n ≤ 100) (h1 : ∀ k, k < n → (bl f).getD k 0 < 128) (h2 : ∀ i j, i < j → j < n → (bl f).getD i 0 ≠ (bl f).getD j 0) :
    Calls Tryz.prog 171 #[.string f, .string g] w fun e w' => e = .returned (.map (some w.heap.size)) ∧ IsMap w' w.heap.size (prs (bl f) (bl g)) ∧ Below w.heap.size w w' := by
  have hmm := @run_makeMap Tryz.prog
  have H1 := Lib.hid h1
  have H2 := Lib.hid h2
  have HF := Lib.hid hf
  have HG := Lib.hid hg
  have hlen : (prs (bl f) (bl g)).length = n := by simp [prs, bl_length, hf, hg]
  have HL := Lib.hid hlen
  have hsz : f.size ≤ 100 := by omega
  have hsz2 : f.size ≤ g.size := by omega
  clear h1 h2 hf hg hlen
  go_enter Tryz.func171, Tryz.ntmps171
  go_wp2
  go_loopw [] (fun wr => ∃ k : Nat, k ≤ f.size ∧ wr.heap[w.heap.size + 1]? = some (.stringIter f k) ∧ IsMap wr w.heap.size ((prs (bl f) (bl g)).take k) ∧ Below w.heap.size w wr) (fun wr => f.size - wr.iterPos (w.heap.size + 1))
  case atStart =>
    refine ⟨0, by omega, ?_, ?_, ((Below.refl _ w).alloc (Nat.le_refl _) _).alloc (by simp) _⟩
    · have := World.iter_heap (w.alloc (.map #[] 0)) f 0
      simpa using this
    · unfold IsMap
      have h0 := heap_alloc_new w (.map #[] 0)
      have h3 := ((Below.refl _ (w.alloc (.map #[] 0))).alloc (Nat.le_refl _) (.stringIter f 0)).block w.heap.size (by simp)
      exact h3.trans h0
  case round =>
    obtain ⟨k, hk, hit, hmap, hbw⟩ := hrel
    by_cases hp : k < f.size
    · have hnx : ∀ ty, (Instr.next (.pointer (some ⟨w.heap.size + 1, 0, none⟩)) true ty).run Tryz.prog wr = _ := fun ty => Lib.run_next_any_at wr (w.heap.size + 1) f k ty hit hp
      have hlow := H1.out k (by rw [← HF.out]; exact hp)
      have hgd : ((bl f).drop k).getD 0 0 = (bl f).getD k 0 := by simp [List.getD_eq_getElem?_getD, List.getElem?_drop]
      rw [dec_from f k hp, dec_low _ (by rw [hgd]; exact hlow), hgd] at hnx
      have hgk := bl_at g k (by omega)
      have hsnoc : (prs (bl f) (bl g)).take (k + 1) = (prs (bl f) (bl g)).take k ++ [((bl f).getD k 0, (bl g).getD k 0)] := by
        have hkl : k < (prs (bl f) (bl g)).length := by rw [HL.out, ← HF.out]; exact hp
        rw [List.take_succ_eq_append_getElem hkl]
        have a1 : k < (bl f).length := by rw [bl_length]; exact hp
        have a2 : k < (bl g).length := by rw [bl_length]; omega
        simp [prs, List.getD_eq_getElem?_getD, List.getElem?_eq_getElem a1, List.getElem?_eq_getElem a2]
      have hlenk : ((prs (bl f) (bl g)).take k).length = k := by rw [List.length_take, HL.out, ← HF.out]; omega
      have hfresh : lk ((prs (bl f) (bl g)).take k) ((bl f).getD k 0) = none := by
        refine lk_fresh _ _ fun p hp' => ?_
        obtain ⟨i, hi, rfl⟩ := List.mem_iff_getElem.1 hp'
        rw [hlenk] at hi
        have a1 : i < (bl f).length := by rw [bl_length]; omega
        have := H2.out i k hi (by rw [← HF.out]; exact hp)
        simpa [prs, List.getD_eq_getElem?_getD, List.getElem?_eq_getElem a1] using this
      have hbt := Utf.getD_byte (bl_byte g) k
      have hmap2 : IsMap (wr.iterAt (w.heap.size + 1) f (k + 1)) w.heap.size ((prs (bl f) (bl g)).take k) := (Lib.iterAt_other wr (w.heap.size + 1) w.heap.size f (k + 1) (by omega)).trans hmap
      have hst := store_new hmap2 ((bl f).getD k 0) ((bl g).getD k 0) hfresh
      have hit2 := Lib.iterAt_heap wr (w.heap.size + 1) f k (k + 1) hit
      have hb2 := Lib.below_iterAt hbw (k := w.heap.size + 1) (by omega) f (k + 1)
      have hmap3 := hmap2.stored ((bl f).getD k 0, (bl g).getD k 0)
      rw [← hsnoc] at hmap3
      have hit3 := (stored_other (wr.iterAt (w.heap.size + 1) f (k + 1)) w.heap.size ((prs (bl f) (bl g)).take k) ((bl f).getD k 0, (bl g).getD k 0) (w.heap.size + 1) (by omega)).trans hit2
      have hb3 := below_stored hb2 (m := w.heap.size) (Nat.le_refl _) ((prs (bl f) (bl g)).take k) ((bl f).getD k 0, (bl g).getD k 0)
      generalize stored (wr.iterAt (w.heap.size + 1) f (k + 1)) w.heap.size ((prs (bl f) (bl g)).take k) ((bl f).getD k 0, (bl g).getD k 0) = w3 at *
      generalize (bl f).getD k 0 = x at *
      generalize (bl g).getD k 0 = y at *
      have HI := Lib.hid hit
      have HI3 := Lib.hid hit3
      have HM3 := Lib.hid hmap3
      clear hit hit2 hit3 hmap hmap2 hmap3 hsnoc hlenk hfresh hgd
      go_wp2
      go_roundw
      case rel => exact ⟨k + 1, by omega, HI3.out, HM3.out, hb3⟩
      case measure => simp only [World.iterPos, HI.out, HI3.out]; omega
    · have hnx : ∀ ty, (Instr.next (.pointer (some ⟨w.heap.size + 1, 0, none⟩)) true ty).run Tryz.prog wr = _ := fun ty => Lib.run_next_end_at wr (w.heap.size + 1) f k ty hit hp
      have hall : (prs (bl f) (bl g)).take k = prs (bl f) (bl g) := List.take_of_length_le (by rw [HL.out, ← HF.out]; omega)
      rw [hall] at hmap
      have HM := Lib.hid hmap
      clear hmap hit hall
      go_wp2
      go_ret
      exact ⟨rfl, HM.out, hbw⟩
end Go.Proofs.YtanjdjiigfdnmaaGreatDoor
