/- The program's May, and whether a cell is of a kind. -/
import Derived.Test.YtanjdjiigfdnmaaGreatDoorClV
import Derived.Test.YtanjdjiigfdnmaaGreatDoorNext
namespace Go.Proofs.YtanjdjiigfdnmaaGreatDoor
open Go.RowKit
set_option linter.unusedVariables false
set_option maxRecDepth 100000

theorem box_new (w : World) (o : Obj) : Below w.heap.size w (w.alloc o) := (Below.refl _ _).alloc (Nat.le_refl _) o
theorem cMay (u : Bool) (k : Int) (w : World) (b : Bool) (hb : Cl.may k = b) : Calls Tryz.prog 94 #[tv u k] w fun e w' => e = .returned (.bool b) ∧ Below w.heap.size w w' := by
  unfold Cl.may at hb
  unfold tv
  by_cases h1 : 0 < k
  · by_cases h2 : k < 6
    · obtain rfl : b = true := by rw [← hb]; simp; omega
      clear hb
      go_enter Tryz.func94, Tryz.ntmps94
      go_wp2
      go_ret
      exact ⟨rfl, box_new _ _⟩
    · obtain rfl : b = false := by rw [← hb]; simp; omega
      clear hb
      go_enter Tryz.func94, Tryz.ntmps94
      go_wp2
      go_ret
      exact ⟨rfl, box_new _ _⟩
  · obtain rfl : b = false := by rw [← hb]; simp; omega
    clear hb
    go_enter Tryz.func94, Tryz.ntmps94
    go_wp2
    go_ret
    exact ⟨rfl, box_new _ _⟩
theorem and1 (n : Int) : bits BinOp.and IntKind.i64 n 1 = n % 2 := by
  show IntKind.i64.wrap ((BitVec.ofInt 64 n &&& BitVec.ofInt 64 1).toNat : Int) = _
  rw [BitVec.toNat_and, BitVec.toNat_ofInt, show (BitVec.ofInt 64 1).toNat = 1 by decide, Nat.and_one_is_mod]
  have h : (((n % ((2 ^ 64 : Nat) : Int)).toNat % 2 : Nat) : Int) = n % 2 := by omega
  rw [h]
  have : 0 ≤ n % 2 ∧ n % 2 < 2 := by omega
  generalize n % 2 = t at *
  simp [IntKind.wrap, IntKind.bits, IntKind.signed]
  omega
theorem cIsBool (c : Cl.C) (w : World) (b : Bool) (hb : Cl.isK 1 c = b) : Calls Tryz.prog 108 #[cv c] w fun e w' => e = .returned (.bool b) ∧ Below w.heap.size w w' := by
  obtain ⟨u, n, s⟩ := c
  have h1 := and1 n
  have HB : eqc ⟨u, n, s⟩ ⟨false, n % 2, ⟨#[]⟩⟩ = b := by
    rw [← hb]
    unfold eqc Cl.isK
    rw [Bool.eq_iff_iff]
    simp [bl]
    cases u <;> simp
    rw [and_comm, show n = n % 2 ↔ n = 0 ∨ n = 1 by omega]
  clear hb
  obtain ⟨q, hq⟩ : ∃ q, n % 2 = q := ⟨_, rfl⟩
  rw [hq] at h1 HB
  have HE := fun w => run_eqc ⟨u, n, s⟩ ⟨false, q, ⟨#[]⟩⟩ w
  rw [HB] at HE
  have HQ := Lib.hid hq
  clear hq HB
  unfold cv at HE ⊢
  simp only at HE ⊢
  go_enter Tryz.func108, Tryz.ntmps108
  go_wp2_with fail
  go_ret
  exact ⟨rfl, box_new _ _⟩
theorem cIs32 (c : Cl.C) (w : World) (b : Bool) (hi : Cl.I64 c.n) (hb : Cl.isK 2 c = b) : Calls Tryz.prog 113 #[cv c] w fun e w' => e = .returned (.bool b) ∧ Below w.heap.size w w' := by
  obtain ⟨u, n, s⟩ := c
  simp only at hi
  unfold Cl.I64 at hi
  obtain ⟨q, hq⟩ : ∃ q, IntKind.i32.wrap n = q := ⟨_, rfl⟩
  have h2 : (-2147483648 ≤ q ∧ q ≤ 2147483647) ∧ (n = q ↔ -2147483648 ≤ n ∧ n ≤ 2147483647) := by
    rw [IntKind.wrap_i32] at hq; omega
  have e1 : ∀ w, (convert 2 21 (.int .i64 n)).run Tryz.prog w = .ok (.int .i32 q) w := fun w => by
    rw [run_convert_int w _ _ _ _ (by rw [Tryz.underlying2]; rfl) (by rw [Tryz.underlying21]; rfl)]
    show Result.ok (Value.int .i32 (IntKind.i32.wrap n)) w = _
    rw [hq]
  have e2 : ∀ w, (convert 21 2 (.int .i32 q)).run Tryz.prog w = .ok (.int .i64 q) w := fun w => by
    rw [run_convert_int w _ _ _ _ (by rw [Tryz.underlying21]; rfl) (by rw [Tryz.underlying2]; rfl)]
    show Result.ok (Value.int .i64 (IntKind.i64.wrap q)) w = _
    rw [IntWalk.i64_in q (by omega)]
  have HB : eqc ⟨u, n, s⟩ ⟨false, q, ⟨#[]⟩⟩ = b := by
    rw [← hb]
    unfold eqc Cl.isK
    rw [Bool.eq_iff_iff]
    simp [bl]
    cases u <;> simp
    rw [and_comm, h2.2]
  have HE := fun w => run_eqc ⟨u, n, s⟩ ⟨false, q, ⟨#[]⟩⟩ w
  rw [HB] at HE
  clear h2 HB hi hb hq
  unfold cv at HE ⊢
  simp only at HE ⊢
  go_enter Tryz.func113, Tryz.ntmps113
  go_wp2_with fail
  go_ret
  exact ⟨rfl, box_new _ _⟩
theorem cIs64 (c : Cl.C) (w : World) (b : Bool) (hb : Cl.isK 3 c = b) : Calls Tryz.prog 118 #[cv c] w fun e w' => e = .returned (.bool b) ∧ Below w.heap.size w w' := by
  obtain ⟨u, n, s⟩ := c
  have HB : eqc ⟨u, n, s⟩ ⟨false, n, ⟨#[]⟩⟩ = b := by
    rw [← hb]
    unfold eqc Cl.isK
    rw [Bool.eq_iff_iff]
    simp [bl]
  clear hb
  have HE := fun w => run_eqc ⟨u, n, s⟩ ⟨false, n, ⟨#[]⟩⟩ w
  rw [HB] at HE
  clear HB
  unfold cv at HE ⊢
  simp only at HE ⊢
  go_enter Tryz.func118, Tryz.ntmps118
  go_wp2_with fail
  go_ret
  exact ⟨rfl, box_new _ _⟩
theorem cIsBytes (c : Cl.C) (w : World) (b : Bool) (hb : Cl.isK 5 c = b) : Calls Tryz.prog 124 #[cv c] w fun e w' => e = .returned (.bool b) ∧ Below w.heap.size w w' := by
  obtain ⟨u, n, s⟩ := c
  obtain ⟨r, hr⟩ : ∃ r, eqc ⟨u, n, s⟩ ⟨false, 0, s⟩ = r := ⟨_, rfl⟩
  have HE := fun w => run_eqc ⟨u, n, s⟩ ⟨false, 0, s⟩ w
  rw [hr] at HE
  have HB : b = (r && decide (s.size ≤ 1024)) := by
    rw [← hb, ← hr]
    unfold eqc Cl.isK
    rw [Bool.eq_iff_iff]
    simp [bl]
    cases u <;> simp
  have HH := Lib.hid HB
  clear hb hr HB
  unfold cv at HE ⊢
  simp only at HE ⊢
  by_cases hs : s.size ≤ 1024
  · have hs2 : (s.size : Int) ≤ 1024 := by omega
    cases r
    all_goals
      go_enter Tryz.func124, Tryz.ntmps124
      go_wp2_with fail
      go_ret
      exact ⟨by rw [HH.out]; simp [hs], box_new _ _⟩
  · have hs2 : ¬ (s.size : Int) ≤ 1024 := by omega
    cases r
    all_goals
      go_enter Tryz.func124, Tryz.ntmps124
      go_wp2_with fail
      go_ret
      exact ⟨by rw [HH.out]; simp [hs], box_new _ _⟩
theorem cIsString (c : Cl.C) (w : World) (T : Tab w) (hm : c.s.size ≤ 1000000) (b : Bool) (hb : Cl.isK 4 c = b) : Calls Tryz.prog 119 #[cv c] w fun e w' => e = .returned (.bool b) ∧ Below w.heap.size w w' := by
  obtain ⟨u, n, s⟩ := c
  simp only at hm
  have hmm : s.size ≤ maxLen := by unfold maxLen; omega
  obtain ⟨r, hr⟩ : ∃ r, Cl.isK 5 ⟨u, n, s⟩ = r := ⟨_, rfl⟩
  obtain ⟨v, hv⟩ : ∃ v, Utf.vld (bl s) = v := ⟨_, rfl⟩
  have HB : b = (r && v) := by
    rw [← hb, ← hr, ← hv]
    unfold Cl.isK
    rw [Bool.eq_iff_iff]
    simp
    cases u <;> simp
  have HH := Lib.hid HB
  have CB := Lib.hid (fun w => cIsBytes ⟨u, n, s⟩ w r hr)
  have CV := Lib.hid (fun (w1 : World) (h : Below w.heap.size w w1) => valid s w1 (T.later h) hmm v hv)
  clear hb hr HB hv T
  unfold cv at CB ⊢
  simp only at CB ⊢
  cases r
  · go_enter Tryz.func119, Tryz.ntmps119
    go_wp2_with fail
    ((with_reducible refine (CB.out _).mono ?_); rintro e w1 ⟨rfl, b1⟩)
    have B1 := Lib.hid ((box_new w _).trans (b1.mono (by simp)))
    clear b1
    go_wp2_with fail
    go_ret
    exact ⟨by rw [HH.out]; rfl, B1.out⟩
  · go_enter Tryz.func119, Tryz.ntmps119
    go_wp2_with fail
    ((with_reducible refine (CB.out _).mono ?_); rintro e w1 ⟨rfl, b1⟩)
    have B1 := Lib.hid ((box_new w _).trans (b1.mono (by simp)))
    have K := ((Blk.new w _ _).later b1).cell 2
    simp at K
    clear b1
    go_wp2_with fail
    ((with_reducible refine (CV.out _ B1.out).mono ?_); rintro e w2 ⟨rfl, b2⟩)
    go_wp2_with fail
    go_ret
    exact ⟨by rw [HH.out]; rfl, up B1.out b2⟩
end Go.Proofs.YtanjdjiigfdnmaaGreatDoor
