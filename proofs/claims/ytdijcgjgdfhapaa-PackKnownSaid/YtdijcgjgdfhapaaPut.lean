/- The writers of the program and of the reference. -/
import Derived.Test.YtdijcgjgdfhapaaSep
import Derived.BigRegion
namespace Go.Proofs.Ytdijcgjgdfhapaa
open Go.RowKit
set_option linter.unusedVariables false

/-- What a piece makes of a writer: whether it is full, and its bytes. -/
def puts (m : Nat) (f : Bool) (l r : List Nat) : Bool × List Nat := if f = true ∨ m < l.length + r.length then (true, l) else (false, l ++ r)
/-- A writer of the program, at block g; its blocks are among R. -/
def PW (w : World) (R : Nat → Prop) (g m : Nat) (s : Bool × List Nat) : Prop :=
  ∃ v, Blk w g 69 [.bool true, v, .int .i64 (if s.1 = true then 5 else 0), .int .i64 (m : Int)] ∧ Own w 0 v s.2 ∧ R g ∧ (∀ k, v.ownBlock = some k → R k ∧ k ≠ g) ∧ ∀ k, R k → k < w.heap.size
/-- A writer of the reference. -/
def RW (w : World) (R : Nat → Prop) (g m : Nat) (s : Bool × List Nat) : Prop :=
  ∃ v, Blk w g 38 [v, .int .i64 (m : Int), .bool s.1] ∧ Own w 0 v s.2 ∧ R g ∧ (∀ k, v.ownBlock = some k → R k ∧ k ≠ g) ∧ ∀ k, R k → k < w.heap.size
theorem PW.touch {S R : Nat → Prop} {w w' : World} {g m : Nat} {s : Bool × List Nat} (h : PW w R g m s) (ht : Touch S w w') (hn : ∀ k, R k → ¬ S k) : PW w' R g m s := by
  obtain ⟨v, hb, ho, hg, hv, hR⟩ := h
  exact ⟨v, hb.touch ht (hn g hg), ho.touch ht (fun k hk => hn k (hv k hk).1), hg, hv, fun k hk => Nat.lt_of_lt_of_le (hR k hk) ht.size⟩
theorem RW.touch {S R : Nat → Prop} {w w' : World} {g m : Nat} {s : Bool × List Nat} (h : RW w R g m s) (ht : Touch S w w') (hn : ∀ k, R k → ¬ S k) : RW w' R g m s := by
  obtain ⟨v, hb, ho, hg, hv, hR⟩ := h
  exact ⟨v, hb.touch ht (hn g hg), ho.touch ht (fun k hk => hn k (hv k hk).1), hg, hv, fun k hk => Nat.lt_of_lt_of_le (hR k hk) ht.size⟩
theorem PW.later {R : Nat → Prop} {w w' : World} {g m : Nat} {s : Bool × List Nat} (h : PW w R g m s) (hb : Below w.heap.size w w') : PW w' R g m s :=
  h.touch (Touch.of_below (S := fun _ => False) hb) (fun _ _ hf => hf)
theorem RW.later {R : Nat → Prop} {w w' : World} {g m : Nat} {s : Bool × List Nat} (h : RW w R g m s) (hb : Below w.heap.size w w') : RW w' R g m s :=
  h.touch (Touch.of_below (S := fun _ => False) hb) (fun _ _ hf => hf)
/-- How a call that puts leaves things. -/
def PPut (w : World) (R : Nat → Prop) (g m : Nat) (s : Bool × List Nat) (x : Ending) (w' : World) : Prop :=
  x = .returned undef ∧ ∃ R', PW w' R' g m s ∧ Touch R w w' ∧ ∀ k, R' k → R k ∨ w.heap.size ≤ k
def RPut (w : World) (R : Nat → Prop) (g m : Nat) (s : Bool × List Nat) (x : Ending) (w' : World) : Prop :=
  x = .returned undef ∧ ∃ R', RW w' R' g m s ∧ Touch R w w' ∧ ∀ k, R' k → R k ∨ w.heap.size ≤ k

/-- What is left of what a call has touched, and its new blocks. -/
def Wider (R : Nat → Prop) (w w' : World) : Nat → Prop := fun k => R k ∨ (w.heap.size ≤ k ∧ k < w'.heap.size)
theorem Wider.new {R : Nat → Prop} {w w' : World} (k : Nat) (h : Wider R w w' k) : R k ∨ w.heap.size ≤ k := h.imp id And.left
theorem size_setCell (w : World) (a : Addr) (u : Value) : (w.setCell a u).heap.size = w.heap.size := by simp [World.setCell]
theorem row_stored {w w1 : World} {R : Nat → Prop} {g j : Nat} {v v1 : Value} {l1 : List Nat} (hg : R g) (hgl : g < w.heap.size) (hv : ∀ k, v.ownBlock = some k → R k ∧ k ≠ g) (hR : ∀ k, R k → k < w.heap.size)
    (ht : Touch (fun k => v.ownBlock = some k) w w1) (ho : Own w1 0 v1 l1) (hk : ∀ k, v1.ownBlock = some k → v.ownBlock = some k ∨ w.heap.size ≤ k) :
    Own (w1.setCell ⟨g, j, none⟩ v1) 0 v1 l1 ∧ (∀ k, v1.ownBlock = some k → Wider R w w1 k ∧ k ≠ g) ∧ (∀ k, Wider R w w1 k → k < (w1.setCell ⟨g, j, none⟩ v1).heap.size) ∧ Touch R w (w1.setCell ⟨g, j, none⟩ v1) := by
  have hne : ∀ k, v1.ownBlock = some k → Wider R w w1 k ∧ k ≠ g := fun k hk1 => by
    have hlt := (ho.lt k hk1).2
    rcases hk k hk1 with h | h
    · exact ⟨.inl (hv k h).1, (hv k h).2⟩
    · exact ⟨.inr ⟨h, hlt⟩, by omega⟩
  refine ⟨ho.touch ((Touch.refl (fun k => k = g) w1).setCell (p := ⟨g, j, none⟩) rfl v1) (fun k hk1 => (hne k hk1).2), hne, fun k hk1 => ?_, ?_⟩
  · rw [size_setCell]
    rcases hk1 with h | h
    · exact Nat.lt_of_lt_of_le (hR k h) ht.size
    · exact h.2
  · exact (ht.mono (fun k hk1 => (hv k hk1).1)).setCell (p := ⟨g, j, none⟩) hg v1

set_option maxHeartbeats 400000 in
theorem trouble (g : Nat) (m : Bool) (e y : Int) (w : World) (h0 : w.cell? ⟨g, 0, none⟩ = some (.bool m)) (h2 : w.cell? ⟨g, 2, none⟩ = some (.int .i64 e)) (hy : (if m = true then e else 1) = y) :
    Calls Try.prog 50 #[.pointer (some ⟨g, 0, none⟩)] w fun x w' => x = .returned (.int .i64 y) ∧ w = w' := by
  cases m
  · simp at hy
    subst hy
    go_enter Try.func50, Try.ntmps50
    go_wp2
    go_ret
    exact ⟨rfl, rfl⟩
  · simp at hy
    subst hy
    go_enter Try.func50, Try.ntmps50
    go_wp2
    go_ret
    exact ⟨rfl, rfl⟩
set_option maxHeartbeats 400000 in
theorem newWriter (m : Int) (w : World) (h0 : -9223372036854775808 ≤ m) (h1 : m ≤ 9223372036854775807) :
    Calls Try.prog 11 #[.int .i64 m] w fun x w' => x = .returned (.pointer (some ⟨w.heap.size, 0, none⟩)) ∧ PW w' (fun k => k = w.heap.size) w.heap.size (max m 0).toNat (false, []) ∧ Below w.heap.size w w' := by
  go_enter Try.func11, Try.ntmps11
  go_wp2
  go_ret
  refine ⟨rfl, ⟨.slice none 0 0, ?_, Own.nil _ _, rfl, by simp [Value.ownBlock], by simp⟩, (Below.refl _ _).alloc (Nat.le_refl _) _⟩
  have := Blk.new w 69 #[.bool true, .slice none 0 0, .int .i64 0, .int .i64 (max m 0)]
  rw [show ((max m 0).toNat : Int) = max m 0 by omega]
  exact this
set_option maxHeartbeats 400000 in
theorem rnewWriter (m : Int) (w : World) (h0 : -9223372036854775808 ≤ m) (h1 : m ≤ 9223372036854775807) :
    Calls Try.prog 12 #[.int .i64 m] w fun x w' => x = .returned (.pointer (some ⟨w.heap.size, 0, none⟩)) ∧ RW w' (fun k => k = w.heap.size) w.heap.size (max m 0).toNat (false, []) ∧ Below w.heap.size w w' := by
  go_enter Try.func12, Try.ntmps12
  go_wp2
  go_ret
  refine ⟨rfl, ⟨.slice none 0 0, ?_, Own.nil _ _, rfl, by simp [Value.ownBlock], by simp⟩, (Below.refl _ _).alloc (Nat.le_refl _) _⟩
  have := Blk.new w 38 #[.slice none 0 0, .int .i64 (max m 0), .bool false]
  rw [show ((max m 0).toNat : Int) = max m 0 by omega]
  exact this
set_option maxHeartbeats 400000 in
theorem fail_ok (g : Nat) (e : Int) (w : World) (h0 : w.cell? ⟨g, 0, none⟩ = some (.bool true)) (h2 : w.cell? ⟨g, 2, none⟩ = some (.int .i64 0)) (hf : w.frozen? ⟨g, 2, none⟩ = false) :
    Calls Try.prog 69 #[.pointer (some ⟨g, 0, none⟩), .int .i64 e] w fun x w' => x = .returned undef ∧ w' = w.setCell ⟨g, 2, none⟩ (.int .i64 e) := by
  go_enter Try.func69, Try.ntmps69
  go_wp2_with fail
  refine (trouble g true 0 0 _ h0 h2 rfl).mono ?_
  rintro x w' ⟨rfl, rfl⟩
  go_wp2
  go_end0
  exact ⟨rfl, rfl⟩
set_option maxHeartbeats 400000 in
theorem wput (g m : Nat) (f : Bool) (l r : List Nat) (R : Nat → Prop) (u : Value) (w : World) (P : PW w R g m (f, l)) (hr : Rd w w.heap.size u r) (hm : (m : Int) ≤ 9223372036854775807) (hl : l.length ≤ 100000000) (hrl : r.length ≤ 100000000) :
    Calls Try.prog 70 #[.pointer (some ⟨g, 0, none⟩), u] w (PPut w R g m (puts m f l r)) := by
  have P0 := Lib.hid P
  have HR := Lib.hid hr
  obtain ⟨v, hb, ho, hg, hv, hR⟩ := P
  have h0 := hb.cell 0
  have h1 := hb.cell 1
  have h2 := hb.cell 2
  have h3 := hb.cell 3
  simp at h0 h1 h2 h3
  obtain ⟨a, c, rfl, q1, q2, -⟩ := ho.rd
  obtain ⟨a', c', rfl, q3, q4, -⟩ := hr
  have HV := Lib.hid hv
  have HRR := Lib.hid hR
  clear hv hR
  unfold maxLen at q2 q4
  have hf2 := hb.frozen 2
  have hf1 := hb.frozen 1
  cases f
  · simp at h2
    by_cases hfit : m < l.length + r.length
    · have HP := Lib.hid (show puts m false l r = (true, l) by unfold puts; rw [if_pos (.inr hfit)])
      have hd : decide ((m : Int) - (l.length : Int) < (r.length : Int)) = true := by simp; omega
      go_enter Try.func70, Try.ntmps70
      go_wp2_with fail
      refine (trouble g true 0 0 _ h0 h2 rfl).mono ?_
      rintro x w' ⟨rfl, rfl⟩
      go_wp2
      go_region
      go_wp2_with fail
      refine (fail_ok g 5 w.drew h0 h2 hf2).mono ?_
      rintro x w' ⟨rfl, rfl⟩
      go_wp2
      go_end0
      rw [HP.out]
      have hT : Touch R w (w.setCell ⟨g, 2, none⟩ (.int .i64 5)).drew := ((Touch.refl R w).setCell (p := ⟨g, 2, none⟩) hg _).drew
      exact ⟨rfl, R, ⟨_, (hb.put 2 _).drew, ho.touch ((Touch.refl (fun k => k = g) w).setCell (p := ⟨g, 2, none⟩) rfl _).drew (fun k hk => (HV.out k hk).2), hg, HV.out, fun k hk => Nat.lt_of_lt_of_le (HRR.out k hk) hT.size⟩, hT, fun k hk => .inl hk⟩
    · have HP := Lib.hid (show puts m false l r = (false, l ++ r) by unfold puts; rw [if_neg (by simp; omega)])
      have hd : decide ((m : Int) - (l.length : Int) < (r.length : Int)) = false := by simp; omega
      go_enter Try.func70, Try.ntmps70
      go_wp2_with fail
      refine (trouble g true 0 0 _ h0 h2 rfl).mono ?_
      rintro x w' ⟨rfl, rfl⟩
      go_wp2
      go_region
      go_wp2_with (at_builtin
                   refine wpList_app_at rfl (.tmp 36) (.tmp 37) rfl 0 (.slice a l.length c) l rfl (w := w.drew) ho _ r rfl HR.out (by omega) (Nat.zero_le _) ?_
                   intro v1 w1 ho1 ht1 hk1
                   have hb1 := Blk.touch (w := w.drew) hb ht1 (fun e => (HV.out g e).2 rfl)
                   have hf3 := hb1.frozen 1
                   have HK := Lib.hid hk1
                   have HO := Lib.hid ho1
                   obtain ⟨a1, c1, e1, -⟩ := ho1.rd
                   subst e1
                   have hc1 := hb1.cell 1
                   simp at hc1
                   clear hk1 ho1)
      go_end0
      rw [HP.out]
      rw [← List.length_append]
      obtain ⟨s1, s2, s3, s4⟩ := row_stored (w := w.drew) (j := 1) hg hb.lt HV.out HRR.out ht1 HO.out HK.out
      exact ⟨rfl, _, ⟨_, hb1.put 1 _, s1, .inl hg, s2, s3⟩, s4.undrew, Wider.new⟩
  · simp at h2
    go_enter Try.func70, Try.ntmps70
    go_wp2_with fail
    refine (trouble g true 5 5 _ h0 h2 rfl).mono ?_
    rintro x w' ⟨rfl, rfl⟩
    go_wp2
    go_end0
    rw [show puts m true l r = (true, l) by unfold puts; rw [if_pos (.inl rfl)]]
    exact ⟨rfl, R, P0.out, Touch.refl _ _, fun k hk => .inl hk⟩
end Go.Proofs.Ytdijcgjgdfhapaa
