/- Copies; tapes of one node; the places of parts; a value that is cut out. -/
import Derived.Test.YtgmdjofnkbaflaaGreatDoorEq
import Derived.OwnWalk
namespace Go.Proofs.YtgmdjofnkbaflaaGreatDoor
open Go.RowKit
set_option linter.unusedVariables false
set_option maxRecDepth 100000

/-- One element, laid by itself. -/
theorem rd_one {α : Type} {enc : α → List Value} {k : Nat} (T : TypeId) (L : Gn.Lay enc k) (w : World) (x : α) (cs : Array Value) (h : cs = (enc x).toArray) : Gn.Rd enc k (w.alloc (.cells cs T)) (w.alloc (.cells cs T)).heap.size (.slice (some ⟨w.heap.size, 0, none⟩) 1 1) [x] :=
  Gn.Own.rd L (Gn.Own.lit (T := T) L w 0 [x] cs 1 1 (by rw [h]; simp [Gn.cells]) rfl rfl (by simp [maxLen]) (Nat.zero_le _))
set_option maxHeartbeats 4000000 in
theorem rcopy (v : Value) (l : List Nd) (w : World) (h : RdN w w.heap.size v l) (hl : l.length ≤ 1000000) :
    Calls Tryz.prog 65 #[v] w fun e w' => ∃ v', e = .returned v' ∧ OwnN w' w.heap.size v' l ∧ Below w.heap.size w w' := by
  have HR := Lib.hid h
  have HO : Hid (OwnN w w.heap.size (.slice none 0 0) []) := Lib.hid (Gn.Own.nil _ _)
  clear h
  go_enter Tryz.func65, Tryz.ntmps65
  go_wp2_with (at_builtin
               refine Gn.wpList_app ndL ndY rfl (.tmp 4) (.tmp 5) rfl w.heap.size (.slice none 0 0) [] rfl HO.out v l rfl HR.out (by simp; omega) (Nat.le_refl _) ?_
               intro v1 w1 ho1 hg1 hl1 hn1)
  go_ret
  exact ⟨_, rfl, ho1, Gn.below_of_own HO.out hg1 (Nat.le_refl _)⟩
/-- A tape of one node. -/
def nd1 (k n : Int) (s : ByteArray) : Nd := ⟨k, ⟨#[]⟩, n, s, 1⟩
def ndr (k n : Int) (s : ByteArray) : Array Value := #[.int .i64 k, .string ⟨#[]⟩, .int .i64 n, .string s, .int .i64 1]
theorem own_one (w : World) (k n : Int) (s : ByteArray) : OwnN (w.alloc (.cells (ndr k n s) 28)) w.heap.size (.slice (some ⟨w.heap.size, 0, none⟩) 1 1) [nd1 k n s] :=
  Gn.Own.lit ndL w w.heap.size [nd1 k n s] _ 1 1 rfl rfl rfl (by simp [maxLen]) (Nat.le_refl _)
/-- What makes a tape of one node. -/
def MkPost (w : World) (l : List Nd) (e : Ending) (w' : World) : Prop := ∃ v', e = .returned v' ∧ OwnN w' w.heap.size v' l ∧ Below w.heap.size w w'
set_option maxHeartbeats 4000000 in
theorem one (k n z : Int) (s : ByteArray) (w : World) : Calls Tryz.prog 68 #[.agg #[.int .i64 k, .string ⟨#[]⟩, .int .i64 n, .string s, .int .i64 z]] w fun e w' => MkPost w [nd1 k n s] e w' := by
  have HO := Lib.hid (own_one (w.alloc (.cells (ndr k n s) 28)) k n s)
  have HB := Lib.hid (up (up_new w (.cells (ndr k n s) 28)) (up_new _ (.cells (ndr k n s) 28)))
  unfold ndr at HO HB
  go_enter Tryz.func68, Tryz.ntmps68
  go_wp2_with fail
  go_ret
  refine ⟨_, rfl, ?_, HB.out⟩
  have := HO.out
  simp only [World.size_alloc] at this
  exact Gn.Own.lower this (by omega)
set_option maxHeartbeats 4000000 in
theorem mkNull (w : World) : Calls Tryz.prog 74 #[] w fun e w' => MkPost w [nd1 1 0 ⟨#[]⟩] e w' := by
  have C := Lib.hid (one 1 0 0 ⟨#[]⟩ w)
  go_enter Tryz.func74, Tryz.ntmps74
  go_wp2_with fail
  ((with_reducible refine (C.out).mono ?_); rintro e w2 ⟨v, rfl, ho, hb⟩)
  go_wp2_with fail
  go_ret
  exact ⟨_, rfl, ho, hb⟩
set_option maxHeartbeats 4000000 in
theorem mkBool (b : Bool) (w : World) : Calls Tryz.prog 75 #[.bool b] w fun e w' => MkPost w [nd1 (if b then 3 else 2) 0 ⟨#[]⟩] e w' := by
  cases b
  · have C := Lib.hid (one 2 0 0 ⟨#[]⟩ w)
    go_enter Tryz.func75, Tryz.ntmps75
    go_wp2_with fail
    ((with_reducible refine (C.out).mono ?_); rintro e w2 ⟨v, rfl, ho, hb⟩)
    go_wp2_with fail
    go_ret
    exact ⟨_, rfl, ho, hb⟩
  · have C := Lib.hid (one 3 0 0 ⟨#[]⟩ w)
    go_enter Tryz.func75, Tryz.ntmps75
    go_wp2_with fail
    ((with_reducible refine (C.out).mono ?_); rintro e w2 ⟨v, rfl, ho, hb⟩)
    go_wp2_with fail
    go_ret
    exact ⟨_, rfl, ho, hb⟩
set_option maxHeartbeats 4000000 in
theorem mkNum (n : Int) (w : World) : Calls Tryz.prog 30 #[.int .i64 n] w fun e w' => MkPost w [nd1 4 n ⟨#[]⟩] e w' := by
  have C := Lib.hid (one 4 n 0 ⟨#[]⟩ w)
  go_enter Tryz.func30, Tryz.ntmps30
  go_wp2_with fail
  ((with_reducible refine (C.out).mono ?_); rintro e w2 ⟨v, rfl, ho, hb⟩)
  go_wp2_with fail
  go_ret
  exact ⟨_, rfl, ho, hb⟩
/-- What a text's tape is. -/
def strL (s : ByteArray) : List Nd := if Utf.vld (bl s) = true then [nd1 5 0 s] else []
set_option maxHeartbeats 4000000 in
theorem mkStr (s : ByteArray) (w : World) (T : Tab w) (hm : s.size ≤ maxLen) : Calls Tryz.prog 31 #[.string s] w fun e w' => MkPost w (strL s) e w' := by
  unfold strL
  by_cases hv : Utf.vld (bl s) = true
  · rw [if_pos hv]
    have CV := Lib.hid (valid s w T hm true hv)
    have C := Lib.hid (fun w => one 5 0 0 s w)
    clear hv T
    go_enter Tryz.func31, Tryz.ntmps31
    go_wp2_with fail
    ((with_reducible refine (CV.out).mono ?_); rintro e w2 ⟨rfl, b2⟩)
    have HB := Lib.hid b2
    clear b2
    go_wp2_with fail
    ((with_reducible refine (C.out _).mono ?_); rintro e w3 ⟨v, rfl, ho, hb⟩)
    have HB3 := Lib.hid (up HB.out hb)
    have HO := Lib.hid (Gn.Own.lower ho HB.out.size)
    clear ho hb
    go_wp2_with fail
    go_ret
    exact ⟨_, rfl, HO.out, HB3.out⟩
  · rw [if_neg hv]
    have CV := Lib.hid (valid s w T hm false (by simpa using hv))
    clear hv T
    go_enter Tryz.func31, Tryz.ntmps31
    go_wp2_with fail
    ((with_reducible refine (CV.out).mono ?_); rintro e w2 ⟨rfl, b2⟩)
    have HB := Lib.hid b2
    clear b2
    go_wp2_with fail
    go_ret
    exact ⟨_, rfl, Gn.Own.nil _ _, HB.out⟩
end Go.Proofs.YtgmdjofnkbaflaaGreatDoor
