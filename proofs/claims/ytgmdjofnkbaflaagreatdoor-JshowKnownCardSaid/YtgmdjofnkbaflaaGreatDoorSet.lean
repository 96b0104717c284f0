/- A map of texts to nothing: a set; what is looked up in it, and what a store leaves. -/
import Derived.Test.YtgmdjofnkbaflaaGreatDoorFields
namespace Go.Proofs.YtgmdjofnkbaflaaGreatDoor
open Go.RowKit
set_option linter.unusedVariables false
set_option maxRecDepth 100000

theorem beq_yes {x y : ByteArray} (h : x = y) : (x == y) = true := by rw [beq_toListBytes, bl_eq, h]; simp
theorem beq_no {x y : ByteArray} (h : ¬ x = y) : (x == y) = false := by rw [beq_toListBytes, bl_eq]; exact decide_eq_false fun e => h (bl_inj e)
/-- Entries, in the order in which they came. -/
def tents : Nat → List ByteArray → List MapEntry
  | _, [] => []
  | i, y :: t => { key := .string y, val := .agg #[], born := i } :: tents (i + 1) t
theorem tents_snoc : ∀ (i : Nat) (l : List ByteArray) (y : ByteArray), tents i (l ++ [y]) = tents i l ++ [{ key := .string y, val := .agg #[], born := i + l.length }]
  | i, [], y => by simp [tents]
  | i, q :: t, y => by
    rw [List.cons_append, tents, tents, tents_snoc (i + 1) t y]
    simp; omega
theorem tfind_none (x : ByteArray) : ∀ (l : List ByteArray) (i j : Nat), x ∉ l → Instr.findNow .string (.string x) (tents i l) j = some none
  | [], _, _, _ => rfl
  | y :: t, i, j, h => by
    have hb : (x == y) = false := beq_no fun e => h (by rw [e]; exact List.mem_cons_self ..)
    simp only [tents, Instr.findNow, Instr.sameNow, hb]
    exact tfind_none x t (i + 1) (j + 1) fun hm => h (List.mem_cons_of_mem _ hm)
theorem tfind_some (x : ByteArray) : ∀ (l : List ByteArray) (i j : Nat), x ∈ l → ∃ q, Instr.findNow .string (.string x) (tents i l) j = some (some (q, .agg #[]))
  | [], _, _, h => by cases h
  | y :: t, i, j, h => by
    by_cases hx : x = y
    · refine ⟨j, ?_⟩
      have hb : (x == y) = true := beq_yes hx
      simp only [tents, Instr.findNow, Instr.sameNow, hb]
    · have hb : (x == y) = false := beq_no hx
      simp only [tents, Instr.findNow, Instr.sameNow, hb]
      exact tfind_some x t (i + 1) (j + 1) ((List.mem_cons.1 h).resolve_left hx)
/-- A block that is such a set. -/
def IsSet (w : World) (m : Nat) (l : List ByteArray) : Prop := w.heap[m]? = some (.map (tents 0 l).toArray l.length)
theorem IsSet.lt {w : World} {m : Nat} {l : List ByteArray} (h : IsSet w m l) : m < w.heap.size := (Array.getElem?_eq_some_iff.1 h).1
theorem IsSet.later {w w' : World} {m : Nat} {l : List ByteArray} (h : IsSet w m l) (hb : Below w.heap.size w w') : IsSet w' m l := (hb.block m h.lt).trans h
theorem IsSet.touch {S : Nat → Prop} {w w' : World} {m : Nat} {l : List ByteArray} (h : IsSet w m l) (ht : Touch S w w') (hn : ¬ S m) : IsSet w' m l := (ht.block m h.lt hn).trans h
theorem check_str (w : World) (b : Bool) (x : ByteArray) : (Instr.checkKey b 10000 9 (.string x)).run Tryz.prog w = .ok () w := by
  unfold Instr.checkKey
  simp [Sem.run_bind, run_underlying Tryz.underlying9, Result.andThen]
theorem tfind_key (w : World) (x : ByteArray) (es : List MapEntry) (r : Option (Nat × Value)) (h : Instr.findNow .string (.string x) es 0 = some r) :
    (Instr.findKey 9 (.string x) es).run Tryz.prog w = .ok r w := by
  unfold Instr.findKey
  simp [Sem.run_bind, run_underlying Tryz.underlying9, Result.andThen, h]
theorem set_none {w : World} {m : Nat} {l : List ByteArray} (h : IsSet w m l) (x : ByteArray) (hx : x ∉ l) :
    (Instr.lookup 110 (.map (some m)) (.string x) true).run Tryz.prog w = .ok (.tuple #[.agg #[], .bool false]) w := by
  have hz : ∀ w, (zeroValue 115).run Tryz.prog w = .ok (.agg #[]) w := fun w => by kernel_rfl
  unfold Instr.lookup IsSet at *
  simp [Sem.run_bind, run_underlying Tryz.underlying110, Result.andThen, getObj, Sem.run, h, check_str, tfind_key w x _ _ (tfind_none x l 0 0 hx), hz]
theorem set_some {w : World} {m : Nat} {l : List ByteArray} (h : IsSet w m l) (x : ByteArray) (hx : x ∈ l) :
    (Instr.lookup 110 (.map (some m)) (.string x) true).run Tryz.prog w = .ok (.tuple #[.agg #[], .bool true]) w := by
  obtain ⟨q, hq⟩ := tfind_some x l 0 0 hx
  unfold Instr.lookup IsSet at *
  simp [Sem.run_bind, run_underlying Tryz.underlying110, Result.andThen, getObj, Sem.run, h, check_str, tfind_key w x _ _ hq]
/-- What a store of a new key leaves. -/
def tput (w : World) (m : Nat) (l : List ByteArray) (y : ByteArray) : World := { w with heap := w.heap.setIfInBounds m (.map (tents 0 (l ++ [y])).toArray (l.length + 1)) }
theorem set_put {w : World} {m : Nat} {l : List ByteArray} (h : IsSet w m l) (x : ByteArray) (hx : x ∉ l) :
    (Instr.mapUpdate 110 (.map (some m)) (.string x) (.agg #[])).run Tryz.prog w = .ok () (tput w m l x) := by
  unfold Instr.mapUpdate IsSet at *
  simp [Sem.run_bind, run_underlying Tryz.underlying110, Result.andThen, getObj, setObj, Sem.run, h, check_str, tfind_key w x _ _ (tfind_none x l 0 0 hx), tput, tents_snoc]
theorem IsSet.put {w : World} {m : Nat} {l : List ByteArray} (h : IsSet w m l) (y : ByteArray) : IsSet (tput w m l y) m (l ++ [y]) := by
  have := h.lt
  unfold IsSet tput
  simp [this]
theorem tput_other (w : World) (m : Nat) (l : List ByteArray) (y : ByteArray) (k : Nat) (h : k ≠ m) : (tput w m l y).heap[k]? = w.heap[k]? := by
  simp [tput, Ne.symm h]
theorem tput_size (w : World) (m : Nat) (l : List ByteArray) (y : ByteArray) : (tput w m l y).heap.size = w.heap.size := by simp [tput]
theorem touch_tput (w : World) (m : Nat) (l : List ByteArray) (y : ByteArray) : Touch (fun k => k = m) w (tput w m l y) :=
  ⟨rfl, rfl, rfl, by rw [tput_size]; exact Nat.le_refl _, fun k _ hk => tput_other w m l y k hk⟩
theorem IsSet.new (w : World) : IsSet (w.alloc (.map #[] 0)) w.heap.size [] := heap_alloc_new w _

/-- The error of a key of a list's part; of a member's key, behind others. -/
def lkey (y : ByteArray) : Int := if y.size = 0 then 0 else 60
open Classical in
noncomputable def okey (l : List ByteArray) (y : ByteArray) : Int := if Utf.vld (bl y) = true then (if y ∈ l then 71 else 0) else 40
theorem lkey_ok (y : ByteArray) (k : Int) (l : List ByteArray) (h : k ≠ 7) : lkey y = 0 ↔ Tp.k1 k l y := by
  unfold lkey Tp.k1
  rw [if_neg h]
  split <;> simp_all
theorem okey_ok (y : ByteArray) (l : List ByteArray) : okey l y = 0 ↔ Tp.k1 7 l y := by
  unfold okey Tp.k1
  rw [if_pos rfl]
  split
  · split <;> simp_all
  · simp_all
set_option maxHeartbeats 1000000 in
theorem ask_list (y : ByteArray) (w : World) : Calls Tryz.prog 148 #[.string y] w fun e w' => e = .returned (.int .i64 (lkey y)) ∧ w = w' := by
  obtain ⟨r, hr⟩ : ∃ r, lkey y = r := ⟨_, rfl⟩
  rw [hr]
  by_cases h : y.size = 0
  · have hq : y.toList.isEmpty = true := by rw [bl_empty, bl_nil.2 h]; rfl
    obtain rfl : 0 = r := by rw [← hr, lkey, if_pos h]
    clear hr
    go_enter Tryz.func148, Tryz.ntmps148
    go_wp2_with fail
    go_ret
    exact ⟨rfl, rfl⟩
  · have hq : y.toList.isEmpty = false := by rw [bl_empty]; exact decide_eq_false fun e => h (bl_nil.1 e)
    obtain rfl : 60 = r := by rw [← hr, lkey, if_neg h]
    clear hr
    go_enter Tryz.func148, Tryz.ntmps148
    go_wp2_with fail
    go_ret
    exact ⟨rfl, rfl⟩
set_option maxHeartbeats 1000000 in
theorem ask_obj (y : ByteArray) (l : List ByteArray) (m g : Nat) (w : World) (T : Tab w) (hm : y.size ≤ maxLen) (hs : IsSet w m l) (hg : Blk w g 110 [.map (some m)]) :
    Calls Tryz.prog 149 #[.string y, .pointer (some ⟨g, 0, none⟩)] w fun e w' =>
      e = .returned (.int .i64 (okey l y)) ∧ Touch (fun i => i = m) w w' ∧ (okey l y = 0 → IsSet w' m (l ++ [y])) := by
  obtain ⟨r, hr⟩ : ∃ r, okey l y = r := ⟨_, rfl⟩
  rw [hr]
  have HR := Lib.hid hr
  clear hr
  have hc : w.cell? ⟨g, 0, none⟩ = some (.map (some m)) := hg.cell 0
  have HG := Lib.hid hg
  have HS := Lib.hid hs
  clear hg hs
  by_cases hv : Utf.vld (bl y) = true
  · have C := Lib.hid (valid y w T hm true hv)
    by_cases hx : y ∈ l
    · have hr : r = 71 := by rw [← HR.out, okey, if_pos hv, if_pos hx]
      subst hr
      clear hv T
      go_enter Tryz.func149, Tryz.ntmps149
      go_wp2_with fail
      ((with_reducible refine (C.out).mono ?_); rintro e w2 ⟨rfl, b2⟩)
      have hc2 : w2.cell? ⟨g, 0, none⟩ = some (.map (some m)) := (HG.out.later b2).cell 0
      have hl := set_some (HS.out.later b2) y hx
      have HB := Lib.hid b2
      clear b2 hc hx
      go_wp2_with fail
      go_ret
      exact ⟨rfl, Touch.of_below (HB.out.alloc HB.out.size _), fun h => by cases h⟩
    · have hr : r = 0 := by rw [← HR.out, okey, if_pos hv, if_neg hx]
      subst hr
      clear hv T
      go_enter Tryz.func149, Tryz.ntmps149
      go_wp2_with fail
      ((with_reducible refine (C.out).mono ?_); rintro e w2 ⟨rfl, b2⟩)
      have hc2 : w2.cell? ⟨g, 0, none⟩ = some (.map (some m)) := (HG.out.later b2).cell 0
      have hl := set_none (HS.out.later b2) y hx
      have b3 := up_new w2 (.cells #[] 115)
      have hc3 : (w2.alloc (.cells #[] 115)).cell? ⟨g, 0, none⟩ = some (.map (some m)) := ((HG.out.later b2).later b3).cell 0
      have hs3 := (HS.out.later b2).later b3
      have hp := set_put hs3 y hx
      have HB := Lib.hid b2
      have HP := Lib.hid hs3
      clear b2 b3 hc hs3
      go_wp2_with fail
      go_ret
      exact ⟨rfl, (Touch.of_below (HB.out.alloc HB.out.size _)).trans (touch_tput _ m l y) (fun i hi => .inl hi), fun _ => HP.out.put y⟩
  · have C := Lib.hid (valid y w T hm false (by simpa using hv))
    have hr : r = 40 := by rw [← HR.out, okey, if_neg hv]
    subst hr
    clear hv T
    go_enter Tryz.func149, Tryz.ntmps149
    go_wp2_with fail
    ((with_reducible refine (C.out).mono ?_); rintro e w2 ⟨rfl, b2⟩)
    have HB := Lib.hid b2
    clear b2 hc
    go_wp2_with fail
    go_ret
    exact ⟨rfl, Touch.of_below HB.out, fun h => by cases h⟩
set_option maxHeartbeats 1000000 in
theorem keysof_list (k : Int) (hk : ¬ k = 7) (w : World) : Calls Tryz.prog 112 #[.int .i64 k] w fun e w' => e = .returned (.func (.func 148) #[] #[]) ∧ w = w' := by
  go_enter Tryz.func112, Tryz.ntmps112
  go_wp2_with fail
  go_ret
  exact ⟨rfl, rfl⟩
/-- A set in a variable of its own. -/
def SetV (w : World) (B m g : Nat) (l : List ByteArray) : Prop := B ≤ m ∧ m ≠ g ∧ IsSet w m l ∧ Blk w g 110 [.map (some m)]
theorem SetV.later {w w' : World} {B m g : Nat} {l : List ByteArray} (h : SetV w B m g l) (hb : Below w.heap.size w w') : SetV w' B m g l := ⟨h.1, h.2.1, h.2.2.1.later hb, h.2.2.2.later hb⟩
theorem SetV.touch {S : Nat → Prop} {w w' : World} {B m g : Nat} {l : List ByteArray} (h : SetV w B m g l) (ht : Touch S w w') (hm : ¬ S m) (hg : ¬ S g) : SetV w' B m g l := ⟨h.1, h.2.1, h.2.2.1.touch ht hm, h.2.2.2.touch ht hg⟩
set_option maxHeartbeats 1000000 in
theorem keysof_obj (w : World) : Calls Tryz.prog 112 #[.int .i64 7] w fun e w' => ∃ m g, e = .returned (.func (.func 149) #[] #[.pointer (some ⟨g, 0, none⟩)]) ∧ SetV w' w.heap.size m g [] ∧ w.heap.size ≤ g ∧ Below w.heap.size w w' := by
  have hmm := @run_makeMap Tryz.prog
  go_enter Tryz.func112, Tryz.ntmps112
  go_wp2_with fail
  go_ret
  refine ⟨w.heap.size, w.heap.size + 1, rfl, ⟨Nat.le_refl _, by omega, (IsSet.new w).later (up_new _ _), ?_⟩, by omega, (up_new w _).alloc (by simp) _⟩
  have := Blk.new (w.alloc (.map #[] 0)) 110 #[.map (some w.heap.size)]
  simpa using this
/-- One more is asked. -/
theorem asks_obj (y : ByteArray) (l : List ByteArray) (B m g : Nat) (w : World) (T : Tab w) (hm : y.size ≤ maxLen) (hs : SetV w B m g l) :
    Calls Tryz.prog 149 #[.string y, .pointer (some ⟨g, 0, none⟩)] w fun e w' =>
      e = .returned (.int .i64 (okey l y)) ∧ Touch (fun i => i = m) w w' ∧ (okey l y = 0 → SetV w' B m g (l ++ [y])) :=
  (ask_obj y l m g w T hm hs.2.2.1 hs.2.2.2).mono fun e w' ⟨h1, h2, h3⟩ => ⟨h1, h2, fun h => ⟨hs.1, hs.2.1, h3 h, hs.2.2.2.touch h2 (fun e => hs.2.1 e.symm)⟩⟩
end Go.Proofs.YtgmdjofnkbaflaaGreatDoor
