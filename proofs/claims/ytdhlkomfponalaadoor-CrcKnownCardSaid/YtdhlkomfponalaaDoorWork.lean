/- The chapter's examples ('works') come out as they should, in whatever memory that has the table. -/
import Derived.Test.YtdhlkomfponalaaDoorEff
import Derived.Deep.RegionHeld3
import Derived.Deep.DrawnRows
import Derived.StillTailTactics
import Derived.Lib.SlBytesConst
namespace Go.Proofs.YtdhlkomfponalaaDoor
open Go.RowKit
set_option linter.unusedVariables false
attribute [local go_sem ↓] Go.wp_at_zero Go.wp_at_succ
attribute [local irreducible] Go.wpStill

/-- Since W nothing that was there has changed, and the table lies in its place. -/
def Kp (W w : World) : Prop := Tab w ∧ Below W.heap.size W w
theorem Kp.start {w : World} (T : Tab w) : Kp w w := ⟨T, Below.refl _ _⟩
theorem Kp.next {W w w' : World} (h : Kp W w) (hb : Below w.heap.size w w') : Kp W w' := ⟨h.1.later hb, up h.2 hb⟩
theorem Kp.drew {W w : World} (h : Kp W w) : Kp W w.drew := ⟨h.1, h.2.drew⟩
theorem Kp.alloc {W w : World} (h : Kp W w) (o : Obj) : Kp W (w.alloc o) := h.next (up_new _ _)
theorem Rd.drew {w : World} {B : Nat} {v : Value} {l : List Nat} (h : Rd w B v l) : Rd w.drew B v l := h
theorem Rd.drop {w : World} {B b off n c : Nat} {l : List Nat} (h : Rd w B (.slice (some ⟨b, off, none⟩) n c) l) (k : Nat) (hk : k < l.length) : Rd w B (.slice (some ⟨b, off + k, none⟩) (n - k) (c - k)) (l.drop k) := by
  obtain ⟨a', c', e, h1, h2, h3, h4, h5⟩ := h
  injection e with e1 e2 e3
  subst e1 e2 e3
  obtain ⟨b', off', e, hb, hc⟩ := h5 (by omega)
  injection e with e
  injection e with e1 e2
  subst e1 e2
  refine ⟨some ⟨b, off + k, none⟩, c - k, by rw [List.length_drop], by rw [List.length_drop]; omega, by omega, by simp, fun x hx => h4 x (List.mem_of_mem_drop hx), fun hp => ⟨b, off + k, rfl, hb, fun j hj => ?_⟩⟩
  rw [List.length_drop] at hj
  rw [Nat.add_assoc, hc (k + j) (by omega)]
  simp [List.getElem?_drop]

theorem sum_is (v : Value) (l : List Nat) (x : Nat) (w : World) (h : Rd w w.heap.size v l) (T : Tab w) (hx : Crc.upd 0 l = x) :
    Calls Tryd.prog 12 #[v] w fun e w' => e = .returned (.int .u32 x) ∧ w = w' := by subst hx; exact sum v l w h T
theorem update_is (s : Nat) (v : Value) (l : List Nat) (x : Nat) (w : World) (hs : s < 4294967296) (h : Rd w w.heap.size v l) (T : Tab w) (hx : Crc.upd s l = x) :
    Calls Tryd.prog 14 #[.int .u32 s, v] w fun e w' => e = .returned (.int .u32 x) ∧ w = w' := by subst hx; exact update s v l w hs h T

set_option maxHeartbeats 400000 in
theorem joins_yes (a b n x : Nat) (W w : World) (ha : a < 4294967296) (hb : b < 4294967296) (hn : n ≤ 9223372036854775807) (K : Kp W w) (hx : Crc.zs (8 * n) a ^^^ b = x) :
    Calls Tryd.prog 24 #[.int .u32 a, .int .u32 b, .int .i64 n, .int .u32 x, .int .i64 0] w fun e w' => e = .returned (.bool true) ∧ Kp W w' := by
  go_enter Tryd.func24, Tryd.ntmps24
  go_wp2_with fail
  refine (join a b n _ ha hb hn K.1).mono ?_
  rintro e w1 ⟨rfl, b1⟩
  rw [hx]
  clear hx
  go_wp2
  go_ret
  exact ⟨rfl, K.next b1⟩
set_option maxHeartbeats 400000 in
theorem joins_neg (a b : Nat) (n : Int) (W w : World) (hn : n < 0) (K : Kp W w) :
    Calls Tryd.prog 24 #[.int .u32 a, .int .u32 b, .int .i64 n, .int .u32 0, .int .i64 6] w fun e w' => e = .returned (.bool true) ∧ Kp W w' := by
  go_enter Tryd.func24, Tryd.ntmps24
  go_wp2_with fail
  refine (join_neg a b n _ hn).mono ?_
  rintro e w1 ⟨rfl, rfl⟩
  go_wp2
  go_ret
  exact ⟨rfl, K⟩

/-- A constant text's bytes: the row bears a mark behind its last cell. -/
theorem rd_const (w : World) (l : List Nat) (cs : Array Value) (n : Nat) (fr : Nat × Nat) (hcs : cs = (vals l).toArray) (hn : n = l.length) (hm : l.length ≤ 1000) (hb : ∀ x ∈ l, x < 256) :
    Rd (w.alloc (.cells cs 5 fr)) (w.alloc (.cells cs 5 fr)).heap.size (.slice (some ⟨w.heap.size, 0, none⟩) n n) l := by
  subst hcs hn
  refine ⟨_, _, rfl, Nat.le_refl _, by simp only [maxLen]; omega, by simp, hb, fun _ => ⟨w.heap.size, 0, rfl, by simp, fun k hk => ?_⟩⟩
  rw [Nat.zero_add]
  have := cell_of_row (w.alloc (.cells (vals l).toArray 5 fr)) w.heap.size k _ 5 fr (Go.heap_alloc_last w _)
  rw [this]
  simp [vals, List.getElem?_eq_getElem hk]
theorem flip_same {f : Nat} {args : Array Value} {w : World} {v : Value} (h : Calls Tryd.prog f args w fun e w' => e = .returned v ∧ w = w') : Calls Tryd.prog f args w fun e w' => e = .returned v ∧ w' = w :=
  h.mono fun _ _ ⟨a, b⟩ => ⟨a, b.symm⟩
def digits : List Nat := [49, 50, 51, 52, 53, 54, 55, 56, 57]
set_option maxHeartbeats 2000000 in
set_option maxRecDepth 100000 in
theorem works (w : World) (T : Tab w) : Calls Tryd.prog 17 #[] w fun e w' => e = .returned (.bool true) ∧ Below w.heap.size w w' := by
  have CV : (convert 23 23 (.slice (some ⟨w.heap.size, 0, none⟩) 9 9)).run Tryd.prog (w.alloc (.cells #[Value.int .u8 49, Value.int .u8 50, Value.int .u8 51, Value.int .u8 52, Value.int .u8 53, Value.int .u8 54, Value.int .u8 55, Value.int .u8 56, Value.int .u8 57] 5)) = .ok (.slice (some ⟨w.heap.size, 0, none⟩) 9 9) (w.alloc (.cells (vals digits).toArray 5 (9, 10))) :=
    Lib.run_convert_bytes_const (P := Tryd.prog) w 23 5 _ 9 9 Tryd.underlying23 Tryd.underlying5
  have L0 := rd_const w digits _ 9 (9, 10) rfl rfl (by decide) (by decide)
  have K := (Kp.start T).alloc (.cells (vals digits).toArray 5 (9, 10))
  generalize w.alloc (.cells (vals digits).toArray 5 (9, 10)) = W1 at *
  have L1 : Rd W1 W1.heap.size (.slice (some ⟨w.heap.size, 0, none⟩) 1 9) [49] := Rd.take (l := digits) L0 1
  have L2 : Rd W1 W1.heap.size (.slice (some ⟨w.heap.size, 1, none⟩) 8 8) [50, 51, 52, 53, 54, 55, 56, 57] := by
    have := L0.drop 1 (by decide)
    simpa [digits] using this
  go_enter Tryd.func17, Tryd.ntmps17
  go_wp2
  clear CV
  refine wp_region_still_tail 17 (by kernel_rfl) (by kernel_rfl) ?_
  simp only [List.take_succ_cons, List.take_zero, List.drop_succ_cons, List.drop_zero]
  repeat still_step
  refine wpStill_step (fun K' hK => ?_)
  go_simp
  refine ⟨.int .u32 0, flip_same (sum_is _ [] 0 _ (Rd.nil _ _) K.drew.1 (by decide +kernel)), hK _ ?_⟩
  clear hK K'
  repeat still_step
  refine wpStill_step (fun K' hK => ?_)
  go_simp
  refine ⟨.int .u32 3808858755, flip_same (sum_is _ digits 3808858755 _ L0.drew K.drew.1 (by decide +kernel)), hK _ ?_⟩
  clear hK K'
  repeat still_step
  refine wpStill_step (fun K' hK => ?_)
  go_simp
  refine ⟨.int .u32 2432014819, flip_same (update_is 0 _ [49] 2432014819 _ (by omega) L1.drew K.drew.1 (by decide +kernel)), hK _ ?_⟩
  clear hK K'
  repeat still_step
  refine wpStill_step (fun K' hK => ?_)
  go_simp
  refine ⟨.int .u32 3808858755, flip_same (update_is 2432014819 _ [50, 51, 52, 53, 54, 55, 56, 57] 3808858755 _ (by omega) L2.drew K.drew.1 (by decide +kernel)), hK _ ?_⟩
  clear hK K'
  repeat still_step
  refine wpStill_nil ?_
  have K1 := K.drew
  clear L0 L1 L2 K
  go_wp2_with fail
  refine (joins_yes 5 7 0 2 w _ (by omega) (by omega) (by omega) K1 (by decide +kernel)).mono ?_
  rintro e w3 ⟨rfl, K3⟩
  go_wp2_with fail
  refine (joins_yes 0 7 9 7 w _ (by omega) (by omega) (by omega) K3 (by decide +kernel)).mono ?_
  rintro e w4 ⟨rfl, K4⟩
  go_wp2_with fail
  refine (joins_neg 1 0 (-1) w _ (by omega) K4).mono ?_
  rintro e w5 ⟨rfl, K5⟩
  go_wp2
  go_ret
  exact ⟨rfl, K5.2⟩
end Go.Proofs.YtdhlkomfponalaaDoor
