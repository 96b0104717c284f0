/- The walk of LebApart: no number's bytes are the beginning of another one's; a greater number has not fewer bytes. -/
import Derived.Test.YthnjadhheklofaaOnly
import Derived.StillTailTactics
namespace Go.Proofs.Ythnjadhheklofaa
open Go.RowKit
set_option linter.unusedVariables false
attribute [local go_sem ↓] Go.wp_at_zero Go.wp_at_succ
attribute [local irreducible] Go.wpStill

theorem size_nat (x : Int) (k : Nat) (w : World) (h0 : 0 ≤ x) (h1 : x ≤ 18446744073709551615) (hk : (Leb.enc x.toNat).length = k) :
    Calls Try.prog 17 #[.int .u64 x] w fun e w' => e = .returned (.int .i64 (k : Int)) ∧ w = w' :=
  (size x w h0 h1).mono fun _ _ ⟨he, hw⟩ => ⟨he.trans (by rw [hk]), hw⟩
/-- A slice whose length is told by another name. -/
theorem rd_len {w : World} {B : Nat} {v : Value} {l : List Nat} (h : Rd w B v l) (n : Nat) (hn : l.length = n) : ∃ a c, v = .slice a n c ∧ n ≤ c ∧ c ≤ maxLen ∧ ∀ k, k ≤ n → Rd w B (.slice a k c) (l.take k) := by
  obtain ⟨a, c, rfl, h1, h2, _⟩ := id h
  subst hn
  refine ⟨a, c, rfl, h1, h2, fun k hk => ?_⟩
  have := h.take k
  rwa [List.length_take, Nat.min_eq_left hk] at this
theorem sizes_order (n m : Int) (n0 : 0 ≤ n) (m0 : 0 ≤ m) (h : n ≠ m) :
    (n < m ∧ (Leb.enc n.toNat).length < (Leb.enc m.toNat).length) ∨ (n < m ∧ (Leb.enc n.toNat).length = (Leb.enc m.toNat).length) ∨
    (m < n ∧ (Leb.enc m.toNat).length < (Leb.enc n.toNat).length) ∨ (m < n ∧ (Leb.enc n.toNat).length = (Leb.enc m.toNat).length) := by
  have h1 := Leb.enc_mono n.toNat m.toNat
  have h2 := Leb.enc_mono m.toNat n.toNat
  omega

theorem flip_same {f : Nat} {args : Array Value} {w : World} {v : Value} (h : Calls Try.prog f args w fun e w' => e = .returned v ∧ w = w') : Calls Try.prog f args w fun e w' => e = .returned v ∧ w' = w :=
  h.mono fun _ _ ⟨a, b⟩ => ⟨a, b.symm⟩

set_option maxHeartbeats 2000000 in
set_option maxRecDepth 100000 in
theorem apart_less (n m : Int) (sn sm : Nat) (w : World) (n0 : 0 ≤ n) (n1 : n ≤ 18446744073709551615) (m0 : 0 ≤ m) (m1 : m ≤ 18446744073709551615) (hb : (n == m) = false)
    (hsn : (Leb.enc n.toNat).length = sn) (hsm : (Leb.enc m.toNat).length = sm) (c1 : n < m) (c2 : sn < sm) (ha : (Leb.enc n.toNat).take sn ≠ (Leb.enc m.toNat).take sn) :
    Calls Try.prog 7 #[.int .u64 n, .int .u64 m] w fun e w' => e = .returned (.bool true) ∧ Below w.heap.size w w' := by
  have hm := Leb.enc_len m.toNat
  rw [hsm] at hm
  have HN := Lib.hid hsn
  have HM := Lib.hid hsm
  have HA := Lib.hid ha
  clear hsn hsm ha
  go_enter Try.func7, Try.ntmps7
  go_wp2_with fail
  refine (put _ [] n _ (Rd.nil _ _) (by simp) n0 n1).mono ?_
  rintro e w1 ⟨r1, rfl, ho1, b1⟩
  go_wp2_with fail
  refine (put _ [] m _ (Rd.nil _ _) (by simp) m0 m1).mono ?_
  rintro e w2 ⟨r2, rfl, ho2, b2⟩
  rw [List.nil_append] at ho1 ho2
  obtain ⟨a1, k1, rfl, q1, q1', T1⟩ := rd_len (ho1.later b2).rd _ HN.out
  obtain ⟨a2, k2, rfl, q2, q2', T2⟩ := rd_len ho2.rd _ HM.out
  have B2 := up b1 b2
  clear ho1 ho2 b1 b2
  unfold maxLen at q1' q2'
  have X1 : Rd w2.drew w2.drew.heap.size (.slice a1 sn k1) ((Leb.enc n.toNat).take sn) := T1 sn (by omega)
  have X2 : Rd w2.drew w2.drew.heap.size (.slice a2 sn k2) ((Leb.enc m.toNat).take sn) := T2 sn (by omega)
  have kb1 : (sn : Int) ≤ (k1 : Int) := by omega
  have kb2 : (sn : Int) ≤ (k2 : Int) := by omega
  clear T1 T2
  go_wp2
  rw [show min (sn : Int) (sm : Int) = (sn : Int) by omega]
  refine wp_region_still_tail 39 (by kernel_rfl) (by kernel_rfl) ?_
  simp only [List.take_succ_cons, List.take_zero, List.drop_succ_cons, List.drop_zero]
  repeat still_step
  refine wpStill_step (fun K hK => ?_)
  go_simp
  refine ⟨.bool false, flip_same (eq_no _ _ _ _ _ X1 X2 HA.out), hK _ ?_⟩
  clear hK K
  repeat still_step
  refine wpStill_step (fun K hK => ?_)
  go_simp
  refine ⟨.int .i64 (sn : Int), flip_same (size_nat n sn _ n0 n1 HN.out), hK _ ?_⟩
  clear hK K
  repeat still_step
  refine wpStill_step (fun K hK => ?_)
  go_simp
  refine ⟨.int .i64 (sm : Int), flip_same (size_nat m sm _ m0 m1 HM.out), hK _ ?_⟩
  clear hK K
  repeat still_step
  refine wpStill_step (fun K hK => ?_)
  go_simp
  refine ⟨.int .i64 (sn : Int), flip_same (size_nat n sn _ n0 n1 HN.out), hK _ ?_⟩
  clear hK K
  repeat still_step
  refine wpStill_nil ?_
  go_wp2_with fail
  refine (works _).mono ?_
  rintro e w3 ⟨rfl, b3⟩
  go_wp2
  go_ret
  exact ⟨rfl, up B2 (undrew b3)⟩

set_option maxHeartbeats 2000000 in
set_option maxRecDepth 100000 in
theorem apart_same (n m : Int) (sn : Nat) (w : World) (n0 : 0 ≤ n) (n1 : n ≤ 18446744073709551615) (m0 : 0 ≤ m) (m1 : m ≤ 18446744073709551615) (hb : (n == m) = false)
    (hsn : (Leb.enc n.toNat).length = sn) (hsm : (Leb.enc m.toNat).length = sn) (c1 : n < m) (ha : (Leb.enc n.toNat).take sn ≠ (Leb.enc m.toNat).take sn) :
    Calls Try.prog 7 #[.int .u64 n, .int .u64 m] w fun e w' => e = .returned (.bool true) ∧ Below w.heap.size w w' := by
  have hm := Leb.enc_len m.toNat
  rw [hsm] at hm
  have HN := Lib.hid hsn
  have HM := Lib.hid hsm
  have HA := Lib.hid ha
  clear hsn hsm ha
  go_enter Try.func7, Try.ntmps7
  go_wp2_with fail
  refine (put _ [] n _ (Rd.nil _ _) (by simp) n0 n1).mono ?_
  rintro e w1 ⟨r1, rfl, ho1, b1⟩
  go_wp2_with fail
  refine (put _ [] m _ (Rd.nil _ _) (by simp) m0 m1).mono ?_
  rintro e w2 ⟨r2, rfl, ho2, b2⟩
  rw [List.nil_append] at ho1 ho2
  obtain ⟨a1, k1, rfl, q1, q1', T1⟩ := rd_len (ho1.later b2).rd _ HN.out
  obtain ⟨a2, k2, rfl, q2, q2', T2⟩ := rd_len ho2.rd _ HM.out
  have B2 := up b1 b2
  clear ho1 ho2 b1 b2
  unfold maxLen at q1' q2'
  have X1 : Rd w2.drew w2.drew.heap.size (.slice a1 sn k1) ((Leb.enc n.toNat).take sn) := T1 sn (by omega)
  have X2 : Rd w2.drew w2.drew.heap.size (.slice a2 sn k2) ((Leb.enc m.toNat).take sn) := T2 sn (by omega)
  have kb1 : (sn : Int) ≤ (k1 : Int) := by omega
  have kb2 : (sn : Int) ≤ (k2 : Int) := by omega
  clear T1 T2
  go_wp2
  refine wp_region_still_tail 39 (by kernel_rfl) (by kernel_rfl) ?_
  simp only [List.take_succ_cons, List.take_zero, List.drop_succ_cons, List.drop_zero]
  repeat still_step
  refine wpStill_step (fun K hK => ?_)
  go_simp
  refine ⟨.bool false, flip_same (eq_no _ _ _ _ _ X1 X2 HA.out), hK _ ?_⟩
  clear hK K
  repeat still_step
  refine wpStill_step (fun K hK => ?_)
  go_simp
  refine ⟨.int .i64 (sn : Int), flip_same (size_nat n sn _ n0 n1 HN.out), hK _ ?_⟩
  clear hK K
  repeat still_step
  refine wpStill_step (fun K hK => ?_)
  go_simp
  refine ⟨.int .i64 (sn : Int), flip_same (size_nat m sn _ m0 m1 HM.out), hK _ ?_⟩
  clear hK K
  repeat still_step
  refine wpStill_step (fun K hK => ?_)
  go_simp
  refine ⟨.int .i64 (sn : Int), flip_same (size_nat n sn _ n0 n1 HN.out), hK _ ?_⟩
  clear hK K
  repeat still_step
  refine wpStill_step (fun K hK => ?_)
  go_simp
  refine ⟨.int .i64 (sn : Int), flip_same (size_nat m sn _ m0 m1 HM.out), hK _ ?_⟩
  clear hK K
  repeat still_step
  refine wpStill_step (fun K hK => ?_)
  go_simp
  refine ⟨.int .i64 (sn : Int), flip_same (size_nat n sn _ n0 n1 HN.out), hK _ ?_⟩
  clear hK K
  repeat still_step
  refine wpStill_nil ?_
  go_wp2_with fail
  refine (works _).mono ?_
  rintro e w3 ⟨rfl, b3⟩
  go_wp2
  go_ret
  exact ⟨rfl, up B2 (undrew b3)⟩

set_option maxHeartbeats 2000000 in
set_option maxRecDepth 100000 in
theorem apart_same' (n m : Int) (sn : Nat) (w : World) (n0 : 0 ≤ n) (n1 : n ≤ 18446744073709551615) (m0 : 0 ≤ m) (m1 : m ≤ 18446744073709551615) (hb : (n == m) = false)
    (hsn : (Leb.enc n.toNat).length = sn) (hsm : (Leb.enc m.toNat).length = sn) (c1 : m < n) (ha : (Leb.enc n.toNat).take sn ≠ (Leb.enc m.toNat).take sn) :
    Calls Try.prog 7 #[.int .u64 n, .int .u64 m] w fun e w' => e = .returned (.bool true) ∧ Below w.heap.size w w' := by
  have hm := Leb.enc_len m.toNat
  rw [hsm] at hm
  have HN := Lib.hid hsn
  have HM := Lib.hid hsm
  have HA := Lib.hid ha
  clear hsn hsm ha
  go_enter Try.func7, Try.ntmps7
  go_wp2_with fail
  refine (put _ [] n _ (Rd.nil _ _) (by simp) n0 n1).mono ?_
  rintro e w1 ⟨r1, rfl, ho1, b1⟩
  go_wp2_with fail
  refine (put _ [] m _ (Rd.nil _ _) (by simp) m0 m1).mono ?_
  rintro e w2 ⟨r2, rfl, ho2, b2⟩
  rw [List.nil_append] at ho1 ho2
  obtain ⟨a1, k1, rfl, q1, q1', T1⟩ := rd_len (ho1.later b2).rd _ HN.out
  obtain ⟨a2, k2, rfl, q2, q2', T2⟩ := rd_len ho2.rd _ HM.out
  have B2 := up b1 b2
  clear ho1 ho2 b1 b2
  unfold maxLen at q1' q2'
  have X1 : Rd w2.drew w2.drew.heap.size (.slice a1 sn k1) ((Leb.enc n.toNat).take sn) := T1 sn (by omega)
  have X2 : Rd w2.drew w2.drew.heap.size (.slice a2 sn k2) ((Leb.enc m.toNat).take sn) := T2 sn (by omega)
  have kb1 : (sn : Int) ≤ (k1 : Int) := by omega
  have kb2 : (sn : Int) ≤ (k2 : Int) := by omega
  clear T1 T2
  go_wp2
  refine wp_region_still_tail 39 (by kernel_rfl) (by kernel_rfl) ?_
  simp only [List.take_succ_cons, List.take_zero, List.drop_succ_cons, List.drop_zero]
  repeat still_step
  refine wpStill_step (fun K hK => ?_)
  go_simp
  refine ⟨.bool false, flip_same (eq_no _ _ _ _ _ X1 X2 HA.out), hK _ ?_⟩
  clear hK K
  repeat still_step
  refine wpStill_step (fun K hK => ?_)
  go_simp
  refine ⟨.int .i64 (sn : Int), flip_same (size_nat n sn _ n0 n1 HN.out), hK _ ?_⟩
  clear hK K
  repeat still_step
  refine wpStill_step (fun K hK => ?_)
  go_simp
  refine ⟨.int .i64 (sn : Int), flip_same (size_nat m sn _ m0 m1 HM.out), hK _ ?_⟩
  clear hK K
  repeat still_step
  refine wpStill_step (fun K hK => ?_)
  go_simp
  refine ⟨.int .i64 (sn : Int), flip_same (size_nat n sn _ n0 n1 HN.out), hK _ ?_⟩
  clear hK K
  repeat still_step
  refine wpStill_step (fun K hK => ?_)
  go_simp
  refine ⟨.int .i64 (sn : Int), flip_same (size_nat m sn _ m0 m1 HM.out), hK _ ?_⟩
  clear hK K
  repeat still_step
  refine wpStill_step (fun K hK => ?_)
  go_simp
  refine ⟨.int .i64 (sn : Int), flip_same (size_nat n sn _ n0 n1 HN.out), hK _ ?_⟩
  clear hK K
  repeat still_step
  refine wpStill_nil ?_
  go_wp2_with fail
  refine (works _).mono ?_
  rintro e w3 ⟨rfl, b3⟩
  go_wp2
  go_ret
  exact ⟨rfl, up B2 (undrew b3)⟩

set_option maxHeartbeats 2000000 in
set_option maxRecDepth 100000 in
theorem apart_more (n m : Int) (sn sm : Nat) (w : World) (n0 : 0 ≤ n) (n1 : n ≤ 18446744073709551615) (m0 : 0 ≤ m) (m1 : m ≤ 18446744073709551615) (hb : (n == m) = false)
    (hsn : (Leb.enc n.toNat).length = sn) (hsm : (Leb.enc m.toNat).length = sm) (c1 : m < n) (c2 : sm < sn) (ha : (Leb.enc n.toNat).take sm ≠ (Leb.enc m.toNat).take sm) :
    Calls Try.prog 7 #[.int .u64 n, .int .u64 m] w fun e w' => e = .returned (.bool true) ∧ Below w.heap.size w w' := by
  have hn := Leb.enc_len n.toNat
  rw [hsn] at hn
  have HN := Lib.hid hsn
  have HM := Lib.hid hsm
  have HA := Lib.hid ha
  clear hsn hsm ha
  have d2 : ¬ sn < sm := by omega
  have d6 : ¬ n < m := by omega
  have d7 : m ≤ n := by omega
  have d5 : ¬ sn = sm := by omega
  have d3 : ((sn : Int) == (sm : Int)) = false := by rw [beq_eq_false_iff_ne]; omega
  have d4 : (sn == sm) = false := by rw [beq_eq_false_iff_ne]; omega
  go_enter Try.func7, Try.ntmps7
  go_wp2_with fail
  refine (put _ [] n _ (Rd.nil _ _) (by simp) n0 n1).mono ?_
  rintro e w1 ⟨r1, rfl, ho1, b1⟩
  go_wp2_with fail
  refine (put _ [] m _ (Rd.nil _ _) (by simp) m0 m1).mono ?_
  rintro e w2 ⟨r2, rfl, ho2, b2⟩
  rw [List.nil_append] at ho1 ho2
  obtain ⟨a1, k1, rfl, q1, q1', T1⟩ := rd_len (ho1.later b2).rd _ HN.out
  obtain ⟨a2, k2, rfl, q2, q2', T2⟩ := rd_len ho2.rd _ HM.out
  have B2 := up b1 b2
  clear ho1 ho2 b1 b2
  unfold maxLen at q1' q2'
  have X1 : Rd w2.drew w2.drew.heap.size (.slice a1 sm k1) ((Leb.enc n.toNat).take sm) := T1 sm (by omega)
  have X2 : Rd w2.drew w2.drew.heap.size (.slice a2 sm k2) ((Leb.enc m.toNat).take sm) := T2 sm (by omega)
  have kb1 : (sm : Int) ≤ (k1 : Int) := by omega
  have kb2 : (sm : Int) ≤ (k2 : Int) := by omega
  clear T1 T2
  go_wp2
  rw [show min (sn : Int) (sm : Int) = (sm : Int) by omega]
  refine wp_region_still_tail 39 (by kernel_rfl) (by kernel_rfl) ?_
  simp only [List.take_succ_cons, List.take_zero, List.drop_succ_cons, List.drop_zero]
  repeat still_step
  refine wpStill_step (fun K hK => ?_)
  go_simp
  refine ⟨.bool false, flip_same (eq_no _ _ _ _ _ X1 X2 HA.out), hK _ ?_⟩
  clear hK K
  repeat still_step
  refine wpStill_step (fun K hK => ?_)
  go_simp
  refine ⟨.int .i64 (sn : Int), flip_same (size_nat n sn _ n0 n1 HN.out), hK _ ?_⟩
  clear hK K
  repeat still_step
  refine wpStill_step (fun K hK => ?_)
  go_simp
  refine ⟨.int .i64 (sm : Int), flip_same (size_nat m sm _ m0 m1 HM.out), hK _ ?_⟩
  clear hK K
  repeat still_step
  refine wpStill_step (fun K hK => ?_)
  go_simp
  refine ⟨.int .i64 (sn : Int), flip_same (size_nat n sn _ n0 n1 HN.out), hK _ ?_⟩
  clear hK K
  repeat still_step
  refine wpStill_step (fun K hK => ?_)
  go_simp
  refine ⟨.int .i64 (sm : Int), flip_same (size_nat m sm _ m0 m1 HM.out), hK _ ?_⟩
  clear hK K
  repeat still_step
  refine wpStill_step (fun K hK => ?_)
  go_simp
  refine ⟨.int .i64 (sn : Int), flip_same (size_nat n sn _ n0 n1 HN.out), hK _ ?_⟩
  clear hK K
  repeat still_step
  refine wpStill_nil ?_
  go_wp2_with fail
  refine (works _).mono ?_
  rintro e w3 ⟨rfl, b3⟩
  go_wp2
  go_ret
  refine ⟨?_, up B2 (undrew b3)⟩
  show Ending.returned (Value.bool _) = _
  simp [d6]

set_option maxHeartbeats 2000000 in
set_option maxRecDepth 100000 in
theorem lebApart (n m : Int) (w : World) (n0 : 0 ≤ n) (n1 : n ≤ 18446744073709551615) (m0 : 0 ≤ m) (m1 : m ≤ 18446744073709551615) :
    Calls Try.prog 7 #[.int .u64 n, .int .u64 m] w fun e w' => e = .returned (.bool true) ∧ Below w.heap.size w w' := by
  have hn := Leb.enc_len n.toNat
  have hm := Leb.enc_len m.toNat
  by_cases hnm : n = m
  · subst hnm
    go_enter Try.func7, Try.ntmps7
    go_wp2_with fail
    refine (put _ [] n _ (Rd.nil _ _) (by simp) n0 n1).mono ?_
    rintro e w1 ⟨r1, rfl, ho1, b1⟩
    go_wp2_with fail
    refine (put _ [] n _ (Rd.nil _ _) (by simp) n0 n1).mono ?_
    rintro e w2 ⟨r2, rfl, ho2, b2⟩
    rw [List.nil_append] at ho1 ho2
    obtain ⟨a1, c1, e1, _⟩ := id ho1.rd
    obtain ⟨a2, c2, e2, _⟩ := id ho2.rd
    subst e1 e2
    go_wp2_with fail
    refine (eq_yes _ _ _ _ _ (ho1.later b2).rd ho2.rd rfl).mono ?_
    rintro e w' ⟨rfl, rfl⟩
    go_wp2_with fail
    refine (works _).mono ?_
    rintro e w3 ⟨rfl, b3⟩
    go_wp2
    go_ret
    exact ⟨rfl, up (up b1 b2) b3⟩
  · have HA := Lib.hid (show (Leb.enc n.toNat).take (min (Leb.enc n.toNat).length (Leb.enc m.toNat).length) ≠ (Leb.enc m.toNat).take (min (Leb.enc n.toNat).length (Leb.enc m.toNat).length) from
      fun e => by have := Leb.enc_apart n.toNat m.toNat (by omega) (by omega) e; omega)
    have hb : (n == m) = false := by simpa using hnm
    have so := sizes_order n m n0 m0 hnm
    obtain ⟨sn, hsn⟩ : ∃ s : Nat, (Leb.enc n.toNat).length = s := ⟨_, rfl⟩
    obtain ⟨sm, hsm⟩ : ∃ s : Nat, (Leb.enc m.toNat).length = s := ⟨_, rfl⟩
    rw [hsn, hsm] at so HA
    rcases so with ⟨c1, c2⟩ | ⟨c1, c2⟩ | ⟨c1, c2⟩ | ⟨c1, c2⟩
    · exact apart_less n m sn sm w n0 n1 m0 m1 hb hsn hsm c1 c2 (by have h := HA.out; rw [Nat.min_eq_left (by omega)] at h; exact h)
    · subst c2
      exact apart_same n m sn w n0 n1 m0 m1 hb hsn hsm c1 (by have h := HA.out; rw [Nat.min_self] at h; exact h)
    · exact apart_more n m sn sm w n0 n1 m0 m1 hb hsn hsm c1 c2 (by have h := HA.out; rw [Nat.min_eq_right (by omega)] at h; exact h)
    · subst c2
      exact apart_same' n m sn w n0 n1 m0 m1 hb hsn hsm c1 (by have h := HA.out; rw [Nat.min_self] at h; exact h)
end Go.Proofs.Ythnjadhheklofaa
