/- The walks of LebReads, LebBack, LebWrites, LebSizes: each returns true and changes nothing that was there. -/
import Derived.Test.YthnjadhheklofaaWork
namespace Go.Proofs.Ythnjadhheklofaa
open Go.RowKit
set_option linter.unusedVariables false

set_option maxHeartbeats 2000000 in
set_option maxRecDepth 100000 in
theorem lebReads (v : Value) (l : List Nat) (w : World) (h : Rd w w.heap.size v l) :
    Calls Try.prog 4 #[v] w fun e w' => e = .returned (.bool true) ∧ Below w.heap.size w w' := by
  go_enter Try.func4, Try.ntmps4
  go_wp2_with fail
  refine (cut60 v l _ h).mono ?_
  rintro e w1 ⟨r1, rfl, ho1, b1⟩
  go_wp2_with fail
  refine (get _ _ _ ho1.rd).mono ?_
  rintro e w' ⟨rfl, rfl⟩
  go_wp2_with fail
  refine (rget _ _ _ ho1.rd).mono ?_
  rintro e w' ⟨rfl, rfl⟩
  go_wp2_with fail
  refine (getInt _ _ _ ho1.rd).mono ?_
  rintro e w' ⟨rfl, rfl⟩
  go_wp2_with fail
  refine (rgetInt _ _ _ ho1.rd).mono ?_
  rintro e w' ⟨rfl, rfl⟩
  go_wp2_with fail
  refine (cut60 v l _ (h.later (Nat.le_refl _) b1)).mono ?_
  rintro e w2 ⟨r2, rfl, ho2, b2⟩
  go_wp2_with fail
  refine (eq_yes _ _ _ _ _ (ho1.later b2).rd ho2.rd rfl).mono ?_
  rintro e w' ⟨rfl, rfl⟩
  go_wp2_with fail
  refine (works _).mono ?_
  rintro e w3 ⟨rfl, b3⟩
  go_wp2
  go_ret
  exact ⟨rfl, up (up b1 b2) b3⟩

theorem dec_is (x : Int) (l : List Nat) (h0 : 0 ≤ x) (h1 : x ≤ 18446744073709551615) : ((Leb.dec (Leb.enc x.toNat ++ l)).1 : Int) = x ∧ ((Leb.dec (Leb.enc x.toNat ++ l)).2.1 : Int) = (Leb.enc x.toNat).length ∧ ((Leb.dec (Leb.enc x.toNat ++ l)).2.2 : Int) = 0 := by
  rw [Leb.dec_enc x.toNat l (by omega)]
  exact ⟨by simp; omega, rfl, rfl⟩
theorem get_is (v : Value) (l : List Nat) (w : World) (h : Rd w w.heap.size v l) (a b c : Int) (ha : ((Leb.dec l).1 : Int) = a) (hb : ((Leb.dec l).2.1 : Int) = b) (hc : ((Leb.dec l).2.2 : Int) = c) :
    Calls Try.prog 24 #[v] w fun e w' => e = .returned (.tuple #[.int .u64 a, .int .i64 b, .int .i64 c]) ∧ w = w' :=
  (get v l w h).mono fun _ _ ⟨he, hw⟩ => ⟨he.trans (by rw [ha, hb, hc]), hw⟩

set_option maxHeartbeats 2000000 in
set_option maxRecDepth 100000 in
theorem lebBack (n i : Int) (v : Value) (l : List Nat) (w : World) (n0 : 0 ≤ n) (n1 : n ≤ 18446744073709551615) (i0 : -9223372036854775808 ≤ i) (i1 : i ≤ 9223372036854775807) (h : Rd w w.heap.size v l) :
    Calls Try.prog 5 #[.int .u64 n, .int .i64 i, v] w fun e w' => e = .returned (.bool true) ∧ Below w.heap.size w w' := by
  have z := zig_range i i0 i1
  have D1 := Lib.hid (dec_is n (l.take 60) n0 n1)
  have D2 := Lib.hid (dec_is (zigN i) (l.take 60) z.1 z.2)
  have D3 : Hid (decI (Leb.enc (zigN i).toNat ++ l.take 60) = i) := Lib.hid (by
    unfold decI
    rw [if_pos (by have := D2.out.2.2; omega), D2.out.1, zag_zig])
  have hl : (l.take 60).length ≤ 60 := by rw [List.length_take]; omega
  have hn := Leb.enc_len n.toNat
  have hi := Leb.enc_len (zigN i).toNat
  obtain ⟨z0, z1⟩ := z
  go_enter Try.func5, Try.ntmps5
  go_wp2_with fail
  refine (put _ [] n _ (Rd.nil _ _) (by simp) n0 n1).mono ?_
  rintro e w1 ⟨r1, rfl, ho1, b1⟩
  rw [List.nil_append] at ho1
  go_wp2_with fail
  refine (cut60 v l _ (h.later (Nat.le_refl _) b1)).mono ?_
  rintro e w2 ⟨r2, rfl, ho2, b2⟩
  go_wp2_with (at_builtin
               refine wpList_app rfl (.tmp 15) (.tmp 17) rfl w.heap.size r1 _ rfl (ho1.later b2) r2 _ rfl ho2.rd (by omega) (Nat.le_trans b1.size b2.size) ?_
               intro v3 w3 ho3 b3)
  refine (get_is _ _ _ ho3.rd _ _ _ D1.out.1 D1.out.2.1 D1.out.2.2).mono ?_
  rintro e w' ⟨rfl, rfl⟩
  have b4 : Below w.heap.size w w3 := (up b1 b2).trans b3
  clear ho1 ho2 ho3 b1 b2 b3
  go_wp2_with fail
  refine (putInt _ [] i _ (Rd.nil _ _) (by simp) i0 i1).mono ?_
  rintro e w5 ⟨r5, rfl, ho5, b5⟩
  rw [List.nil_append] at ho5
  go_wp2_with fail
  refine (cut60 v l _ (h.later (Nat.le_refl _) (up b4 b5))).mono ?_
  rintro e w6 ⟨r6, rfl, ho6, b6⟩
  go_wp2_with (at_builtin
               refine wpList_app rfl (.tmp 25) (.tmp 27) rfl w3.heap.size r5 _ rfl (ho5.later b6) r6 _ rfl ho6.rd (by omega) (Nat.le_trans b5.size b6.size) ?_
               intro v7 w7 ho7 b7)
  refine (getInt_is _ _ _ ho7.rd _ _ _ D3.out D2.out.2.1 D2.out.2.2).mono ?_
  rintro e w' ⟨rfl, rfl⟩
  have b8 : Below w.heap.size w w7 := up b4 ((up b5 b6).trans b7)
  clear ho5 ho6 ho7 b4 b5 b6 b7
  go_wp2_with fail
  refine (size _ _ n0 n1).mono ?_
  rintro e w' ⟨rfl, rfl⟩
  go_wp2_with fail
  refine (zig _ _ i0 i1).mono ?_
  rintro e w' ⟨rfl, rfl⟩
  go_wp2_with fail
  refine (size _ _ z0 z1).mono ?_
  rintro e w' ⟨rfl, rfl⟩
  go_wp2_with fail
  refine (works _).mono ?_
  rintro e w9 ⟨rfl, b9⟩
  go_wp2
  go_ret
  exact ⟨rfl, up b8 b9⟩
end Go.Proofs.Ythnjadhheklofaa
