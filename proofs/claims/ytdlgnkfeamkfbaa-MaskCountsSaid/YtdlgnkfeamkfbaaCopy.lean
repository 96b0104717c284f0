/- The helpers on lists of bytes: CopyBytes, EqBytes, Bring, and cut; a slice's beginning. -/
import Derived.Test.YtdlgnkfeamkfbaaMem
import Derived.Test.YtdlgnkfeamkfbaaPlain
namespace Go.Proofs.Ytdlgnkfeamkfbaa
open Go.RowKit
set_option linter.unusedVariables false

set_option maxHeartbeats 400000 in
theorem copyBytes (v : Value) (l : List Nat) (w : World) (h : Rd w w.heap.size v l) (hl : l.length ≤ 1000000) :
    Calls Try.prog 20 #[v] w fun e w' => ∃ r, e = .returned r ∧ Own w' w.heap.size r l ∧ Below w.heap.size w w' := by
  go_enter Try.func20, Try.ntmps20
  go_wp2_with (at_builtin
               refine wpList_app rfl (.tmp 4) (.tmp 5) rfl w.heap.size (.slice none 0 0) [] rfl (Own.nil _ _) v l rfl h (by simp; omega) (Nat.le_refl _) ?_
               intro v1 w1 hown1 hb1)
  go_ret
  exact ⟨v1, rfl, by simpa using hown1, hb1⟩

theorem str_dec (l r : List Nat) (hl : ∀ x ∈ l, x < 256) (hr : ∀ x ∈ r, x < 256) : ((str l).toList == (str r).toList) = decide (l = r) := by
  have h : (str l).toList = (str r).toList ↔ l = r := by
    rw [← str_eq l r hl hr]
    refine ⟨fun e => ?_, fun e => by rw [e]⟩
    rw [ByteArray.toList_eq, ByteArray.toList_eq] at e
    exact ByteArray.ext (Array.toList_inj.1 e)
  rw [Bool.eq_iff_iff, beq_iff_eq, decide_eq_true_iff]
  exact h

set_option maxHeartbeats 400000 in
theorem eqBytes (v u : Value) (l r : List Nat) (w : World) (hv : Rd w w.heap.size v l) (hu : Rd w w.heap.size u r) :
    Calls Try.prog 12 #[v, u] w fun e w' => e = .returned (.bool (decide (l = r))) ∧ w = w' := by
  have h1 := run_str w _ v l hv
  have h2 := run_str w _ u r hu
  have h3 := Lib.hid (str_dec l r hv.bytes hu.bytes)
  go_enter Try.func12, Try.ntmps12
  go_wp2
  go_ret
  exact ⟨congrArg Ending.returned (congrArg Value.bool h3.out), rfl⟩

theorem Rd.take {w : World} {B : Nat} {a : Option Addr} {l : List Nat} {c : Nat} (h : Rd w B (.slice a l.length c) l) (k : Nat) : Rd w B (.slice a (l.take k).length c) (l.take k) := by
  obtain ⟨a', c', e, h1, h2, h3, h4, h5⟩ := h
  injection e with e1 e2 e3
  subst e1 e3
  refine ⟨_, _, rfl, by rw [List.length_take]; omega, h2, h3, fun x hx => h4 x (List.mem_of_mem_take hx), fun hp => ?_⟩
  rw [List.length_take] at hp ⊢
  obtain ⟨b, off, rfl, hb, hc⟩ := h5 (by omega)
  refine ⟨b, off, rfl, hb, fun j hj => ?_⟩
  rw [hc j (by omega)]
  simp [show j < k by omega]

theorem up_alloc {w w1 w2 : World} {o : Obj} (h : Below w.heap.size w w1) (h2 : Below (w1.alloc o).heap.size (w1.alloc o) w2) : Below w.heap.size w w2 :=
  (h.alloc h.size o).trans (h2.mono (by have := h.size; simp; omega))
theorem up {w w1 w2 : World} (h : Below w.heap.size w w1) (h2 : Below w1.heap.size w1 w2) : Below w.heap.size w w2 := h.trans (h2.mono h.size)
theorem up_new (w : World) (o : Obj) : Below w.heap.size w (w.alloc o) := (Below.refl _ _).alloc (Nat.le_refl _) _

/-- A list that is written out. -/
theorem rd_lit (w : World) (l : List Nat) (cs : Array Value) (n : Nat) (hcs : cs = (vals l).toArray) (hn : n = l.length) (hm : l.length ≤ 1000) (hb : ∀ x ∈ l, x < 256) :
    Rd (w.alloc (.cells cs 5)) (w.alloc (.cells cs 5)).heap.size (.slice (some ⟨w.heap.size, 0, none⟩) n n) l := by
  subst hcs hn
  refine ⟨_, _, rfl, Nat.le_refl _, by simp only [maxLen]; omega, by simp, hb, fun _ => ⟨w.heap.size, 0, rfl, by simp, fun k hk => ?_⟩⟩
  rw [Nat.zero_add]
  have := cell_of_row (w.alloc (.cells (vals l).toArray 5)) w.heap.size k _ 5 (0, 0) (heap_alloc_new w _)
  rw [this]
  simp [vals, List.getElem?_eq_getElem hk]

theorem eq_yes (v u : Value) (l r : List Nat) (w : World) (hv : Rd w w.heap.size v l) (hu : Rd w w.heap.size u r) (h : l = r) :
    Calls Try.prog 12 #[v, u] w fun e w' => e = .returned (.bool true) ∧ w = w' :=
  (eqBytes v u l r w hv hu).mono fun _ _ ⟨he, hw⟩ => ⟨he.trans (by rw [decide_eq_true h]), hw⟩
theorem eq_no (v u : Value) (l r : List Nat) (w : World) (hv : Rd w w.heap.size v l) (hu : Rd w w.heap.size u r) (h : l ≠ r) :
    Calls Try.prog 12 #[v, u] w fun e w' => e = .returned (.bool false) ∧ w = w' :=
  (eqBytes v u l r w hv hu).mono fun _ _ ⟨he, hw⟩ => ⟨he.trans (by rw [decide_eq_false h]), hw⟩
theorem undrew {w w' : World} (h : Below w.drew.heap.size w.drew w') : Below w.heap.size w w' := ⟨h.os, h.tape, h.output, h.size, h.block⟩
theorem bring_eq (x n : Int) (hn : 0 < n) (hn' : n ≤ 1152921504606846976) : (x.tmod n < 0 → wrap64 (x.tmod n + n) = x % n) ∧ (0 ≤ x.tmod n → x.tmod n = x % n) := by
  unfold wrap64
  have h := Int.tmod_eq_emod (a := x) (b := n)
  have h2 := Int.emod_nonneg x (b := n) (by omega)
  have h3 := Int.emod_lt_of_pos x hn
  split at h <;> constructor <;> intro h5 <;> omega

set_option maxHeartbeats 400000 in
theorem bring (x n : Int) (w : World) (h0 : -9223372036854775808 ≤ x) (h1 : x ≤ 9223372036854775807) (hn : 0 < n) (hn' : n ≤ 1152921504606846976) :
    Calls Try.prog 23 #[.int .i64 x, .int .i64 n] w fun e w' => e = .returned (.int .i64 (x % n)) ∧ w = w' := by
  have he := Lib.hid (bring_eq x n hn hn')
  go_enter Try.func23, Try.ntmps23
  go_wp2
  · go_ret
    exact ⟨congrArg Ending.returned (congrArg (Value.int IntKind.i64) (he.out.1 (by assumption))), rfl⟩
  · go_ret
    exact ⟨congrArg Ending.returned (congrArg (Value.int IntKind.i64) (he.out.2 (by assumption))), rfl⟩
end Go.Proofs.Ytdlgnkfeamkfbaa
