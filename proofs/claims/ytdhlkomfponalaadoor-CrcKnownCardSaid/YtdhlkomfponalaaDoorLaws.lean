/- The walks of CrcSums, CrcJoins, CrcGoesOn: each returns true and changes nothing that was there. -/
import Derived.Test.YtdhlkomfponalaaDoorWork
namespace Go.Proofs.YtdhlkomfponalaaDoor
open Go.RowKit
set_option linter.unusedVariables false

theorem nat32 (x : Int) (h0 : 0 ≤ x) (h1 : x ≤ 4294967295) : ∃ n : Nat, x = (n : Int) ∧ n < 4294967296 := ⟨x.toNat, by omega, by omega⟩

set_option maxHeartbeats 2000000 in
set_option maxRecDepth 100000 in
theorem crcSums (s : Int) (v : Value) (l : List Nat) (w : World) (s0 : 0 ≤ s) (s1 : s ≤ 4294967295) (h : Rd w w.heap.size v l) (T : Tab w) :
    Calls Tryd.prog 3 #[.int .u32 s, v] w fun e w' => e = .returned (.bool true) ∧ Below w.heap.size w w' := by
  obtain ⟨n, rfl, hn⟩ := nat32 s s0 s1
  go_enter Tryd.func3, Tryd.ntmps3
  go_wp2_with fail
  refine (cut300 v l _ h).mono ?_
  rintro e w1 ⟨r1, rfl, ho1, b1⟩
  have T1 := T.later b1
  go_wp2_with fail
  refine (sum _ _ _ ho1.rd T1).mono ?_
  rintro e w' ⟨rfl, rfl⟩
  go_wp2_with fail
  refine (rsum _ _ _ ho1.rd).mono ?_
  rintro e w' ⟨rfl, rfl⟩
  go_wp2_with fail
  refine (update _ _ _ _ hn ho1.rd T1).mono ?_
  rintro e w' ⟨rfl, rfl⟩
  go_wp2_with fail
  refine (rupdate _ _ _ _ hn ho1.rd).mono ?_
  rintro e w' ⟨rfl, rfl⟩
  go_wp2_with fail
  refine (cut300 v l _ (h.later (Nat.le_refl _) b1)).mono ?_
  rintro e w2 ⟨r2, rfl, ho2, b2⟩
  go_wp2_with fail
  refine (eq_yes _ _ _ _ _ (ho1.later b2).rd ho2.rd rfl).mono ?_
  rintro e w' ⟨rfl, rfl⟩
  go_wp2_with fail
  refine (works _ (T1.later b2)).mono ?_
  rintro e w3 ⟨rfl, b3⟩
  go_wp2
  go_ret
  exact ⟨rfl, up (up b1 b2) b3⟩

set_option maxHeartbeats 2000000 in
set_option maxRecDepth 100000 in
theorem joins_law (a b : Nat) (m : Int) (x : Nat) (c : Int) (w : World) (n : Int) (hm : (n ≤ 600 ∧ m = n) ∨ (600 < n ∧ m = 600)) (n0 : -9223372036854775808 ≤ n) (n1 : n ≤ 9223372036854775807) (T : Tab w)
    (J : Hid (∀ w, Tab w → Calls Tryd.prog 18 #[.int .u32 a, .int .u32 b, .int .i64 m] w fun e w' => e = .returned (.tuple #[.int .u32 x, .int .i64 c]) ∧ Below w.heap.size w w'))
    (R : Hid (∀ w, Calls Tryd.prog 19 #[.int .u32 a, .int .u32 b, .int .i64 m] w fun e w' => e = .returned (.tuple #[.int .u32 x, .int .i64 c]) ∧ w = w')) :
    Calls Tryd.prog 4 #[.int .u32 a, .int .u32 b, .int .i64 n] w fun e w' => e = .returned (.bool true) ∧ Below w.heap.size w w' := by
  rcases hm with ⟨hm, rfl⟩ | ⟨hm, rfl⟩
  · go_enter Tryd.func4, Tryd.ntmps4
    go_wp2_with fail
    refine (J.out _ T).mono ?_
    rintro e w1 ⟨rfl, b1⟩
    go_wp2_with fail
    refine (R.out _).mono ?_
    rintro e w' ⟨rfl, rfl⟩
    go_wp2_with fail
    refine (works _ (T.later b1)).mono ?_
    rintro e w3 ⟨rfl, b3⟩
    go_wp2
    go_ret
    exact ⟨rfl, up b1 b3⟩
  · go_enter Tryd.func4, Tryd.ntmps4
    go_wp2_with fail
    refine (J.out _ T).mono ?_
    rintro e w1 ⟨rfl, b1⟩
    go_wp2_with fail
    refine (R.out _).mono ?_
    rintro e w' ⟨rfl, rfl⟩
    go_wp2_with fail
    refine (works _ (T.later b1)).mono ?_
    rintro e w3 ⟨rfl, b3⟩
    go_wp2
    go_ret
    exact ⟨rfl, up b1 b3⟩

theorem crcJoins (a b n : Int) (w : World) (a0 : 0 ≤ a) (a1 : a ≤ 4294967295) (b0 : 0 ≤ b) (b1 : b ≤ 4294967295) (n0 : -9223372036854775808 ≤ n) (n1 : n ≤ 9223372036854775807) (T : Tab w) :
    Calls Tryd.prog 4 #[.int .u32 a, .int .u32 b, .int .i64 n] w fun e w' => e = .returned (.bool true) ∧ Below w.heap.size w w' := by
  obtain ⟨a, rfl, ha⟩ := nat32 a a0 a1
  obtain ⟨b, rfl, hb⟩ := nat32 b b0 b1
  rcases Int.lt_or_le n 0 with hn | hn
  · exact joins_law a b n 0 6 w n (.inl ⟨by omega, rfl⟩) n0 n1 T (Lib.hid fun w _ => (join_neg a b n w hn).mono fun e w' ⟨h1, h2⟩ => ⟨h1, h2 ▸ Below.refl _ _⟩) (Lib.hid fun w => rjoin_neg a b n w hn)
  · obtain ⟨k, rfl⟩ := Int.eq_ofNat_of_zero_le hn
    rcases Nat.lt_or_ge 600 k with hk | hk
    · exact joins_law a b 600 _ 0 w k (.inr ⟨by omega, rfl⟩) n0 n1 T (Lib.hid fun w T => join a b 600 w ha hb (by omega) T) (Lib.hid fun w => rjoin a b 600 w ha hb (by omega))
    · exact joins_law a b k _ 0 w k (.inl ⟨by omega, rfl⟩) n0 n1 T (Lib.hid fun w T => join a b k w ha hb (by omega) T) (Lib.hid fun w => rjoin a b k w ha hb (by omega))

set_option maxHeartbeats 2000000 in
set_option maxRecDepth 100000 in
theorem crcGoesOn (s : Int) (va : Value) (la : List Nat) (vb : Value) (lb : List Nat) (w : World) (s0 : 0 ≤ s) (s1 : s ≤ 4294967295) (ha : Rd w w.heap.size va la) (hb : Rd w w.heap.size vb lb) (T : Tab w) :
    Calls Tryd.prog 5 #[.int .u32 s, va, vb] w fun e w' => e = .returned (.bool true) ∧ Below w.heap.size w w' := by
  obtain ⟨n, rfl, hn⟩ := nat32 s s0 s1
  have l1 : (la.take 300).length ≤ 300 := by rw [List.length_take]; omega
  have l2 : (lb.take 300).length ≤ 300 := by rw [List.length_take]; omega
  have U1 : Hid (Crc.upd n (la.take 300) < 4294967296) := Lib.hid (Crc.upd_lt _ _ hn (fun x hx => ha.bytes x (List.mem_of_mem_take hx)))
  have U2 := Lib.hid (Crc.upd_append n (la.take 300) (lb.take 300))
  go_enter Tryd.func5, Tryd.ntmps5
  go_wp2_with fail
  refine (cut300 va la _ ha).mono ?_
  rintro e w1 ⟨r1, rfl, ho1, b1⟩
  go_wp2_with fail
  refine (cut300 vb lb _ (hb.later (Nat.le_refl _) b1)).mono ?_
  rintro e w2 ⟨r2, rfl, ho2, b2⟩
  have o1 := ho1.later b2
  have T2 := (T.later b1).later b2
  have B2 := up b1 b2
  clear ha hb ho1 b1 b2 T
  go_wp2_with fail
  refine (update _ _ _ _ hn o1.rd T2).mono ?_
  rintro e w' ⟨rfl, rfl⟩
  go_wp2_with fail
  refine (update _ _ _ _ U1.out ho2.rd T2).mono ?_
  rintro e w' ⟨rfl, rfl⟩
  rw [U2.out]
  go_wp2_with fail
  refine (copyBytes _ _ _ o1.rd (by omega)).mono ?_
  rintro e w3 ⟨r3, rfl, ho3, b3⟩
  go_wp2_with (at_builtin
               refine wpList_app rfl (.tmp 18) (.tmp 19) rfl w2.heap.size r3 _ rfl ho3 r2 _ rfl (ho2.later b3).rd (by omega) b3.size ?_
               intro v4 w4 ho4 b4)
  have B4 := up B2 (b3.trans b4)
  have T4 := T2.later (b3.trans b4)
  clear ho3 b3 b4 B2 T2
  refine (update _ _ _ _ hn ho4.rd T4).mono ?_
  rintro e w' ⟨rfl, rfl⟩
  go_wp2_with fail
  refine (update_is n _ [] n _ hn (Rd.nil _ _) T4 (Crc.upd_nil n)).mono ?_
  rintro e w' ⟨rfl, rfl⟩
  go_wp2_with fail
  refine (works _ T4).mono ?_
  rintro e w5 ⟨rfl, b5⟩
  go_wp2
  go_ret
  exact ⟨rfl, up B4 b5⟩
end Go.Proofs.YtdhlkomfponalaaDoor
