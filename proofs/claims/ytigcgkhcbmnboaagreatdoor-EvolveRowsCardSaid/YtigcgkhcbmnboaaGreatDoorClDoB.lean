/- ClDoB. -/
import Derived.Test.YtigcgkhcbmnboaaGreatDoorClDo
/- Bits of the program. -/
namespace Go.Proofs.YtigcgkhcbmnboaaGreatDoor
open Go.RowKit
set_option linter.unusedVariables false
set_option maxRecDepth 100000

set_option maxHeartbeats 8000000 in
theorem bitsErr (u : Bool) (k : Int) (c : Cl.C) (w : World) (T : TA w) (hi : Cl.I64 c.n) (hm : c.s.size ≤ 1000000) (e0 : Nat) (he : Cl.chk u k c = e0) (x : ByteArray) (hx : (if e0 = 0 then str (Cl.bts u k c) else ⟨#[]⟩) = x) (hne : e0 ≠ 0) : Calls Tryz.prog 52 #[tv u k, cv c] w fun e w' => e = .returned (.tuple #[.string x, .int .i64 (e0 : Nat)]) ∧ Below w.heap.size w w' := by
  have B0 := Lib.hid (BX.start w u k c)
  have CC := Lib.hid (fun w1 (hb : Below w.heap.size w w1) => checks u k c w1 (T.later hb) hi hm e0 he)
  rw [if_neg hne] at hx
  subst hx
  have hn : ((e0 : Int) != 0) = true := by simp; omega
  have HN := Lib.hid hne
  have HE := Lib.hid he
  clear hne he hi hm T
  obtain ⟨u0, n, s⟩ := c
  unfold tv cv at CC ⊢
  simp only at B0 CC ⊢
  go_enter Tryz.func52, Tryz.ntmps52
  go_wp2_with fail
  ((with_reducible refine (CC.out _ B0.out.b).mono ?_); rintro e wb ⟨rfl, b1⟩)
  have BB := Lib.hid (B0.out.later b1)
  have BA := Lib.hid BB.out.b
  obtain ⟨⟨t0, t1⟩, ⟨c0, c1, c2⟩⟩ := BB.out.lies
  simp only at t0 t1 c0 c1 c2
  clear b1
  go_wp2_with fail
  go_ret2
  exact ⟨rfl, BA.out⟩

set_option maxHeartbeats 8000000 in
theorem bitsNull (u : Bool) (k : Int) (c : Cl.C) (w : World) (T : TA w) (hi : Cl.I64 c.n) (hm : c.s.size ≤ 1000000) (e0 : Nat) (he : Cl.chk u k c = e0) (x : ByteArray) (hx : (if e0 = 0 then str (Cl.bts u k c) else ⟨#[]⟩) = x) (hz : e0 = 0) (hu : c.u = true) : Calls Tryz.prog 52 #[tv u k, cv c] w fun e w' => e = .returned (.tuple #[.string x, .int .i64 (e0 : Nat)]) ∧ Below w.heap.size w w' := by
  rw [if_pos hz] at hx
  have hx2 : (⟨#[0]⟩ : ByteArray) = x := by rw [← hx]; unfold Cl.bts; rw [if_pos hu]; rfl
  subst hx2
  subst hz
  have B0 := Lib.hid (BX.start w u k c)
  have CC := Lib.hid (fun w1 (hb : Below w.heap.size w w1) => checks u k c w1 (T.later hb) hi hm 0 he)
  clear hx he hi hm T
  obtain ⟨u0, n, s⟩ := c
  simp only at hu
  subst hu
  unfold tv cv at CC ⊢
  simp only at B0 CC ⊢
  go_enter Tryz.func52, Tryz.ntmps52
  go_wp2_with fail
  ((with_reducible refine (CC.out _ B0.out.b).mono ?_); rintro e wb ⟨rfl, b1⟩)
  have BB := Lib.hid (B0.out.later b1)
  have BA := Lib.hid BB.out.b
  obtain ⟨⟨t0, t1⟩, ⟨c0, c1, c2⟩⟩ := BB.out.lies
  simp only at t0 t1 c0 c1 c2
  clear b1
  go_wp2_with fail
  go_ret2
  exact ⟨rfl, BA.out⟩

set_option maxHeartbeats 8000000 in
theorem bits1 (u : Bool) (c : Cl.C) (w : World) (T : TA w) (hi : Cl.I64 c.n) (hm : c.s.size ≤ 1000000) (e0 : Nat) (he : Cl.chk u 1 c = e0) (x : ByteArray) (hx : (if e0 = 0 then str (Cl.bts u 1 c) else ⟨#[]⟩) = x) (hz : e0 = 0) (hu : c.u = false) : Calls Tryz.prog 52 #[tv u 1, cv c] w fun e w' => e = .returned (.tuple #[.string x, .int .i64 (e0 : Nat)]) ∧ Below w.heap.size w w' := by
  rw [if_pos hz] at hx
  subst hz
  have hk : Cl.isK 1 c = true := by
    rcases Cl.of_parts (Cl.chk_ok he).2 with h | h
    · rw [h.1] at hu; cases hu
    · exact h.2
  have B0 := Lib.hid (BX.start w u 1 c)
  have CC := Lib.hid (fun w1 (hb : Below w.heap.size w w1) => checks u 1 c w1 (T.later hb) hi hm 0 he)
  have CI := Lib.hid (fun w1 (hb : Below w.heap.size w w1) => kf1.bits c w1 _ (T.later hb) hi hk rfl)
  have hx2 : (if u = true then (⟨#[1]⟩ : ByteArray) ++ str (Cl.body 1 c) else str (Cl.body 1 c)) = x := by
    rw [← hx, bts_some hu]
    cases u
    · rw [if_neg (by simp), if_neg (by simp), List.nil_append]
    · rw [if_pos rfl, if_pos rfl, str_append]; rfl
  have hsz : (str (Cl.body 1 c)).size ≤ 2060 := by
    have h := Cl.bts_size (u := u) (Cl.chk_ok he).1 (Cl.chk_ok he).2
    have : (Cl.body 1 c).length ≤ (Cl.bts u 1 c).length := by
      rw [bts_some hu, List.length_append]; omega
    rw [str_size]; omega
  generalize str (Cl.body 1 c) = y at *
  clear hx he hi hm T hk
  obtain ⟨u0, n, s⟩ := c
  simp only at hu
  subst hu
  unfold tv cv at CC ⊢
  unfold cv at CI
  simp only at B0 CC CI ⊢
  cases u
  · skip
    obtain rfl : y = x := hx2
    clear hsz
    go_enter Tryz.func52, Tryz.ntmps52
    go_wp2_with fail
    ((with_reducible refine (CC.out _ B0.out.b).mono ?_); rintro e wb ⟨rfl, b1⟩)
    have BB := Lib.hid (B0.out.later b1)
    have BA := Lib.hid BB.out.b
    obtain ⟨⟨t0, t1⟩, ⟨c0, c1, c2⟩⟩ := BB.out.lies
    simp only at t0 t1 c0 c1 c2
    clear b1
    have SK := Lib.hid (fun w1 (hb : Below wb.heap.size wb w1) => (⟨hb, (BB.out.later hb).lies⟩ : Below wb.heap.size wb w1 ∧ _))
    simp only at SK
    have C1 := Lib.hid (fun w1 (hb : Below wb.heap.size wb w1) => (kindOf1 false w1).mono (fun e w' h => (⟨h.1, up hb h.2⟩ : e = _ ∧ Below wb.heap.size wb w')))
    have C2 := Lib.hid (fun w1 (hb : Below wb.heap.size wb w1) => (CI.out w1 (up BA.out hb)).mono (fun e w' h => (⟨h.1, up hb h.2⟩ : e = _ ∧ Below wb.heap.size wb w')))
    unfold tv kv1 at C1
    clear CI
    have hf : ∀ w, (Instr.field 104 (.agg #[.func (Fn.func 90) #[] #[], .func (Fn.func 91) #[] #[], .func (Fn.func 92) #[] #[], .func (Fn.func 93) #[] #[], .func (Fn.func 94) #[] #[]]) 3).run Tryz.prog w = .ok (.func (Fn.func 93) #[] #[]) w := fun _ => by kernel_rfl
    go_wp2_with fail
    go_region_held3 (fun w' => Below wb.heap.size wb w' ∧ ((w'.cell? ⟨w.heap.size, 0, none⟩ = some (.int .i64 1) ∧ w'.cell? ⟨w.heap.size, 1, none⟩ = some (.bool false)) ∧ (w'.cell? ⟨w.heap.size + 1, 0, none⟩ = some (.bool false) ∧ w'.cell? ⟨w.heap.size + 1, 1, none⟩ = some (.int .i64 n) ∧ w'.cell? ⟨w.heap.size + 1, 2, none⟩ = some (.string s))))
      (first | exact SK.out _ (Below.refl _ _).drew | exact SK.out _ (Below.refl _ _) | exact SK.out _ HC.out | exact SK.out _ HA.out | fail "keep")
      ((first
        | (go_at_call 73; (with_reducible refine (C1.out _ (by first | exact (Below.refl _ _).drew | exact (Below.refl _ _))).mono ?_); rintro e wA ⟨rfl, hA⟩; have HA := Lib.hid hA; clear hA)
        | (go_at_call 93; (with_reducible refine (C2.out _ HA.out).mono ?_); rintro e wC ⟨rfl, hC⟩; have HC := Lib.hid hC; clear hC)))
    go_wp2_with fail
    go_ret2
    exact ⟨rfl, up BA.out HC.out⟩
  · skip
    have z1 : (⟨#[1]⟩ : ByteArray).size + y.size ≤ 9223372036854775807 := by show 1 + _ ≤ _; omega
    have n1 : ¬ 9223372036854775807 < (⟨#[1]⟩ : ByteArray).size + y.size := by omega
    have n2 : ¬ 9223372036854775807 < 1 + y.size := by omega
    obtain rfl : (⟨#[1]⟩ : ByteArray) ++ y = x := hx2
    clear hsz
    go_enter Tryz.func52, Tryz.ntmps52
    go_wp2_with fail
    ((with_reducible refine (CC.out _ B0.out.b).mono ?_); rintro e wb ⟨rfl, b1⟩)
    have BB := Lib.hid (B0.out.later b1)
    have BA := Lib.hid BB.out.b
    obtain ⟨⟨t0, t1⟩, ⟨c0, c1, c2⟩⟩ := BB.out.lies
    simp only at t0 t1 c0 c1 c2
    clear b1
    have SK := Lib.hid (fun w1 (hb : Below wb.heap.size wb w1) => (⟨hb, (BB.out.later hb).lies⟩ : Below wb.heap.size wb w1 ∧ _))
    simp only at SK
    have C1 := Lib.hid (fun w1 (hb : Below wb.heap.size wb w1) => (kindOf1 true w1).mono (fun e w' h => (⟨h.1, up hb h.2⟩ : e = _ ∧ Below wb.heap.size wb w')))
    have C2 := Lib.hid (fun w1 (hb : Below wb.heap.size wb w1) => (CI.out w1 (up BA.out hb)).mono (fun e w' h => (⟨h.1, up hb h.2⟩ : e = _ ∧ Below wb.heap.size wb w')))
    unfold tv kv1 at C1
    clear CI
    have hf : ∀ w, (Instr.field 104 (.agg #[.func (Fn.func 90) #[] #[], .func (Fn.func 91) #[] #[], .func (Fn.func 92) #[] #[], .func (Fn.func 93) #[] #[], .func (Fn.func 94) #[] #[]]) 3).run Tryz.prog w = .ok (.func (Fn.func 93) #[] #[]) w := fun _ => by kernel_rfl
    go_wp2_with fail
    go_region_held3 (fun w' => Below wb.heap.size wb w' ∧ ((w'.cell? ⟨w.heap.size, 0, none⟩ = some (.int .i64 1) ∧ w'.cell? ⟨w.heap.size, 1, none⟩ = some (.bool true)) ∧ (w'.cell? ⟨w.heap.size + 1, 0, none⟩ = some (.bool false) ∧ w'.cell? ⟨w.heap.size + 1, 1, none⟩ = some (.int .i64 n) ∧ w'.cell? ⟨w.heap.size + 1, 2, none⟩ = some (.string s))))
      (first | exact SK.out _ (Below.refl _ _).drew | exact SK.out _ (Below.refl _ _) | exact SK.out _ HC.out | exact SK.out _ HA.out | fail "keep")
      ((first
        | (go_at_call 73; (with_reducible refine (C1.out _ (by first | exact (Below.refl _ _).drew | exact (Below.refl _ _))).mono ?_); rintro e wA ⟨rfl, hA⟩; have HA := Lib.hid hA; clear hA)
        | (go_at_call 93; (with_reducible refine (C2.out _ HA.out).mono ?_); rintro e wC ⟨rfl, hC⟩; have HC := Lib.hid hC; clear hC)))
    go_wp2_with fail
    go_ret2
    exact ⟨rfl, up BA.out HC.out⟩

set_option maxHeartbeats 8000000 in
theorem bits2 (u : Bool) (c : Cl.C) (w : World) (T : TA w) (hi : Cl.I64 c.n) (hm : c.s.size ≤ 1000000) (e0 : Nat) (he : Cl.chk u 2 c = e0) (x : ByteArray) (hx : (if e0 = 0 then str (Cl.bts u 2 c) else ⟨#[]⟩) = x) (hz : e0 = 0) (hu : c.u = false) : Calls Tryz.prog 52 #[tv u 2, cv c] w fun e w' => e = .returned (.tuple #[.string x, .int .i64 (e0 : Nat)]) ∧ Below w.heap.size w w' := by
  rw [if_pos hz] at hx
  subst hz
  have hk : Cl.isK 2 c = true := by
    rcases Cl.of_parts (Cl.chk_ok he).2 with h | h
    · rw [h.1] at hu; cases hu
    · exact h.2
  have B0 := Lib.hid (BX.start w u 2 c)
  have CC := Lib.hid (fun w1 (hb : Below w.heap.size w w1) => checks u 2 c w1 (T.later hb) hi hm 0 he)
  have CI := Lib.hid (fun w1 (hb : Below w.heap.size w w1) => kf2.bits c w1 _ (T.later hb) hi hk rfl)
  have hx2 : (if u = true then (⟨#[1]⟩ : ByteArray) ++ str (Cl.body 2 c) else str (Cl.body 2 c)) = x := by
    rw [← hx, bts_some hu]
    cases u
    · rw [if_neg (by simp), if_neg (by simp), List.nil_append]
    · rw [if_pos rfl, if_pos rfl, str_append]; rfl
  have hsz : (str (Cl.body 2 c)).size ≤ 2060 := by
    have h := Cl.bts_size (u := u) (Cl.chk_ok he).1 (Cl.chk_ok he).2
    have : (Cl.body 2 c).length ≤ (Cl.bts u 2 c).length := by
      rw [bts_some hu, List.length_append]; omega
    rw [str_size]; omega
  generalize str (Cl.body 2 c) = y at *
  clear hx he hi hm T hk
  obtain ⟨u0, n, s⟩ := c
  simp only at hu
  subst hu
  unfold tv cv at CC ⊢
  unfold cv at CI
  simp only at B0 CC CI ⊢
  cases u
  · skip
    obtain rfl : y = x := hx2
    clear hsz
    go_enter Tryz.func52, Tryz.ntmps52
    go_wp2_with fail
    ((with_reducible refine (CC.out _ B0.out.b).mono ?_); rintro e wb ⟨rfl, b1⟩)
    have BB := Lib.hid (B0.out.later b1)
    have BA := Lib.hid BB.out.b
    obtain ⟨⟨t0, t1⟩, ⟨c0, c1, c2⟩⟩ := BB.out.lies
    simp only at t0 t1 c0 c1 c2
    clear b1
    have SK := Lib.hid (fun w1 (hb : Below wb.heap.size wb w1) => (⟨hb, (BB.out.later hb).lies⟩ : Below wb.heap.size wb w1 ∧ _))
    simp only at SK
    have C1 := Lib.hid (fun w1 (hb : Below wb.heap.size wb w1) => (kindOf2 false w1).mono (fun e w' h => (⟨h.1, up hb h.2⟩ : e = _ ∧ Below wb.heap.size wb w')))
    have C2 := Lib.hid (fun w1 (hb : Below wb.heap.size wb w1) => (CI.out w1 (up BA.out hb)).mono (fun e w' h => (⟨h.1, up hb h.2⟩ : e = _ ∧ Below wb.heap.size wb w')))
    unfold tv kv2 at C1
    clear CI
    have hf : ∀ w, (Instr.field 104 (.agg #[.func (Fn.func 95) #[] #[], .func (Fn.func 96) #[] #[], .func (Fn.func 97) #[] #[], .func (Fn.func 98) #[] #[], .func (Fn.func 99) #[] #[]]) 3).run Tryz.prog w = .ok (.func (Fn.func 98) #[] #[]) w := fun _ => by kernel_rfl
    go_wp2_with fail
    go_region_held3 (fun w' => Below wb.heap.size wb w' ∧ ((w'.cell? ⟨w.heap.size, 0, none⟩ = some (.int .i64 2) ∧ w'.cell? ⟨w.heap.size, 1, none⟩ = some (.bool false)) ∧ (w'.cell? ⟨w.heap.size + 1, 0, none⟩ = some (.bool false) ∧ w'.cell? ⟨w.heap.size + 1, 1, none⟩ = some (.int .i64 n) ∧ w'.cell? ⟨w.heap.size + 1, 2, none⟩ = some (.string s))))
      (first | exact SK.out _ (Below.refl _ _).drew | exact SK.out _ (Below.refl _ _) | exact SK.out _ HC.out | exact SK.out _ HA.out | fail "keep")
      ((first
        | (go_at_call 73; (with_reducible refine (C1.out _ (by first | exact (Below.refl _ _).drew | exact (Below.refl _ _))).mono ?_); rintro e wA ⟨rfl, hA⟩; have HA := Lib.hid hA; clear hA)
        | (go_at_call 98; (with_reducible refine (C2.out _ HA.out).mono ?_); rintro e wC ⟨rfl, hC⟩; have HC := Lib.hid hC; clear hC)))
    go_wp2_with fail
    go_ret2
    exact ⟨rfl, up BA.out HC.out⟩
  · skip
    have z1 : (⟨#[1]⟩ : ByteArray).size + y.size ≤ 9223372036854775807 := by show 1 + _ ≤ _; omega
    have n1 : ¬ 9223372036854775807 < (⟨#[1]⟩ : ByteArray).size + y.size := by omega
    have n2 : ¬ 9223372036854775807 < 1 + y.size := by omega
    obtain rfl : (⟨#[1]⟩ : ByteArray) ++ y = x := hx2
    clear hsz
    go_enter Tryz.func52, Tryz.ntmps52
    go_wp2_with fail
    ((with_reducible refine (CC.out _ B0.out.b).mono ?_); rintro e wb ⟨rfl, b1⟩)
    have BB := Lib.hid (B0.out.later b1)
    have BA := Lib.hid BB.out.b
    obtain ⟨⟨t0, t1⟩, ⟨c0, c1, c2⟩⟩ := BB.out.lies
    simp only at t0 t1 c0 c1 c2
    clear b1
    have SK := Lib.hid (fun w1 (hb : Below wb.heap.size wb w1) => (⟨hb, (BB.out.later hb).lies⟩ : Below wb.heap.size wb w1 ∧ _))
    simp only at SK
    have C1 := Lib.hid (fun w1 (hb : Below wb.heap.size wb w1) => (kindOf2 true w1).mono (fun e w' h => (⟨h.1, up hb h.2⟩ : e = _ ∧ Below wb.heap.size wb w')))
    have C2 := Lib.hid (fun w1 (hb : Below wb.heap.size wb w1) => (CI.out w1 (up BA.out hb)).mono (fun e w' h => (⟨h.1, up hb h.2⟩ : e = _ ∧ Below wb.heap.size wb w')))
    unfold tv kv2 at C1
    clear CI
    have hf : ∀ w, (Instr.field 104 (.agg #[.func (Fn.func 95) #[] #[], .func (Fn.func 96) #[] #[], .func (Fn.func 97) #[] #[], .func (Fn.func 98) #[] #[], .func (Fn.func 99) #[] #[]]) 3).run Tryz.prog w = .ok (.func (Fn.func 98) #[] #[]) w := fun _ => by kernel_rfl
    go_wp2_with fail
    go_region_held3 (fun w' => Below wb.heap.size wb w' ∧ ((w'.cell? ⟨w.heap.size, 0, none⟩ = some (.int .i64 2) ∧ w'.cell? ⟨w.heap.size, 1, none⟩ = some (.bool true)) ∧ (w'.cell? ⟨w.heap.size + 1, 0, none⟩ = some (.bool false) ∧ w'.cell? ⟨w.heap.size + 1, 1, none⟩ = some (.int .i64 n) ∧ w'.cell? ⟨w.heap.size + 1, 2, none⟩ = some (.string s))))
      (first | exact SK.out _ (Below.refl _ _).drew | exact SK.out _ (Below.refl _ _) | exact SK.out _ HC.out | exact SK.out _ HA.out | fail "keep")
      ((first
        | (go_at_call 73; (with_reducible refine (C1.out _ (by first | exact (Below.refl _ _).drew | exact (Below.refl _ _))).mono ?_); rintro e wA ⟨rfl, hA⟩; have HA := Lib.hid hA; clear hA)
        | (go_at_call 98; (with_reducible refine (C2.out _ HA.out).mono ?_); rintro e wC ⟨rfl, hC⟩; have HC := Lib.hid hC; clear hC)))
    go_wp2_with fail
    go_ret2
    exact ⟨rfl, up BA.out HC.out⟩

set_option maxHeartbeats 8000000 in
theorem bits3 (u : Bool) (c : Cl.C) (w : World) (T : TA w) (hi : Cl.I64 c.n) (hm : c.s.size ≤ 1000000) (e0 : Nat) (he : Cl.chk u 3 c = e0) (x : ByteArray) (hx : (if e0 = 0 then str (Cl.bts u 3 c) else ⟨#[]⟩) = x) (hz : e0 = 0) (hu : c.u = false) : Calls Tryz.prog 52 #[tv u 3, cv c] w fun e w' => e = .returned (.tuple #[.string x, .int .i64 (e0 : Nat)]) ∧ Below w.heap.size w w' := by
  rw [if_pos hz] at hx
  subst hz
  have hk : Cl.isK 3 c = true := by
    rcases Cl.of_parts (Cl.chk_ok he).2 with h | h
    · rw [h.1] at hu; cases hu
    · exact h.2
  have B0 := Lib.hid (BX.start w u 3 c)
  have CC := Lib.hid (fun w1 (hb : Below w.heap.size w w1) => checks u 3 c w1 (T.later hb) hi hm 0 he)
  have CI := Lib.hid (fun w1 (hb : Below w.heap.size w w1) => kf3.bits c w1 _ (T.later hb) hi hk rfl)
  have hx2 : (if u = true then (⟨#[1]⟩ : ByteArray) ++ str (Cl.body 3 c) else str (Cl.body 3 c)) = x := by
    rw [← hx, bts_some hu]
    cases u
    · rw [if_neg (by simp), if_neg (by simp), List.nil_append]
    · rw [if_pos rfl, if_pos rfl, str_append]; rfl
  have hsz : (str (Cl.body 3 c)).size ≤ 2060 := by
    have h := Cl.bts_size (u := u) (Cl.chk_ok he).1 (Cl.chk_ok he).2
    have : (Cl.body 3 c).length ≤ (Cl.bts u 3 c).length := by
      rw [bts_some hu, List.length_append]; omega
    rw [str_size]; omega
  generalize str (Cl.body 3 c) = y at *
  clear hx he hi hm T hk
  obtain ⟨u0, n, s⟩ := c
  simp only at hu
  subst hu
  unfold tv cv at CC ⊢
  unfold cv at CI
  simp only at B0 CC CI ⊢
  cases u
  · skip
    obtain rfl : y = x := hx2
    clear hsz
    go_enter Tryz.func52, Tryz.ntmps52
    go_wp2_with fail
    ((with_reducible refine (CC.out _ B0.out.b).mono ?_); rintro e wb ⟨rfl, b1⟩)
    have BB := Lib.hid (B0.out.later b1)
    have BA := Lib.hid BB.out.b
    obtain ⟨⟨t0, t1⟩, ⟨c0, c1, c2⟩⟩ := BB.out.lies
    simp only at t0 t1 c0 c1 c2
    clear b1
    have SK := Lib.hid (fun w1 (hb : Below wb.heap.size wb w1) => (⟨hb, (BB.out.later hb).lies⟩ : Below wb.heap.size wb w1 ∧ _))
    simp only at SK
    have C1 := Lib.hid (fun w1 (hb : Below wb.heap.size wb w1) => (kindOf3 false w1).mono (fun e w' h => (⟨h.1, up hb h.2⟩ : e = _ ∧ Below wb.heap.size wb w')))
    have C2 := Lib.hid (fun w1 (hb : Below wb.heap.size wb w1) => (CI.out w1 (up BA.out hb)).mono (fun e w' h => (⟨h.1, up hb h.2⟩ : e = _ ∧ Below wb.heap.size wb w')))
    unfold tv kv3 at C1
    clear CI
    have hf : ∀ w, (Instr.field 104 (.agg #[.func (Fn.func 100) #[] #[], .func (Fn.func 96) #[] #[], .func (Fn.func 97) #[] #[], .func (Fn.func 98) #[] #[], .func (Fn.func 99) #[] #[]]) 3).run Tryz.prog w = .ok (.func (Fn.func 98) #[] #[]) w := fun _ => by kernel_rfl
    go_wp2_with fail
    go_region_held3 (fun w' => Below wb.heap.size wb w' ∧ ((w'.cell? ⟨w.heap.size, 0, none⟩ = some (.int .i64 3) ∧ w'.cell? ⟨w.heap.size, 1, none⟩ = some (.bool false)) ∧ (w'.cell? ⟨w.heap.size + 1, 0, none⟩ = some (.bool false) ∧ w'.cell? ⟨w.heap.size + 1, 1, none⟩ = some (.int .i64 n) ∧ w'.cell? ⟨w.heap.size + 1, 2, none⟩ = some (.string s))))
      (first | exact SK.out _ (Below.refl _ _).drew | exact SK.out _ (Below.refl _ _) | exact SK.out _ HC.out | exact SK.out _ HA.out | fail "keep")
      ((first
        | (go_at_call 73; (with_reducible refine (C1.out _ (by first | exact (Below.refl _ _).drew | exact (Below.refl _ _))).mono ?_); rintro e wA ⟨rfl, hA⟩; have HA := Lib.hid hA; clear hA)
        | (go_at_call 98; (with_reducible refine (C2.out _ HA.out).mono ?_); rintro e wC ⟨rfl, hC⟩; have HC := Lib.hid hC; clear hC)))
    go_wp2_with fail
    go_ret2
    exact ⟨rfl, up BA.out HC.out⟩
  · skip
    have z1 : (⟨#[1]⟩ : ByteArray).size + y.size ≤ 9223372036854775807 := by show 1 + _ ≤ _; omega
    have n1 : ¬ 9223372036854775807 < (⟨#[1]⟩ : ByteArray).size + y.size := by omega
    have n2 : ¬ 9223372036854775807 < 1 + y.size := by omega
    obtain rfl : (⟨#[1]⟩ : ByteArray) ++ y = x := hx2
    clear hsz
    go_enter Tryz.func52, Tryz.ntmps52
    go_wp2_with fail
    ((with_reducible refine (CC.out _ B0.out.b).mono ?_); rintro e wb ⟨rfl, b1⟩)
    have BB := Lib.hid (B0.out.later b1)
    have BA := Lib.hid BB.out.b
    obtain ⟨⟨t0, t1⟩, ⟨c0, c1, c2⟩⟩ := BB.out.lies
    simp only at t0 t1 c0 c1 c2
    clear b1
    have SK := Lib.hid (fun w1 (hb : Below wb.heap.size wb w1) => (⟨hb, (BB.out.later hb).lies⟩ : Below wb.heap.size wb w1 ∧ _))
    simp only at SK
    have C1 := Lib.hid (fun w1 (hb : Below wb.heap.size wb w1) => (kindOf3 true w1).mono (fun e w' h => (⟨h.1, up hb h.2⟩ : e = _ ∧ Below wb.heap.size wb w')))
    have C2 := Lib.hid (fun w1 (hb : Below wb.heap.size wb w1) => (CI.out w1 (up BA.out hb)).mono (fun e w' h => (⟨h.1, up hb h.2⟩ : e = _ ∧ Below wb.heap.size wb w')))
    unfold tv kv3 at C1
    clear CI
    have hf : ∀ w, (Instr.field 104 (.agg #[.func (Fn.func 100) #[] #[], .func (Fn.func 96) #[] #[], .func (Fn.func 97) #[] #[], .func (Fn.func 98) #[] #[], .func (Fn.func 99) #[] #[]]) 3).run Tryz.prog w = .ok (.func (Fn.func 98) #[] #[]) w := fun _ => by kernel_rfl
    go_wp2_with fail
    go_region_held3 (fun w' => Below wb.heap.size wb w' ∧ ((w'.cell? ⟨w.heap.size, 0, none⟩ = some (.int .i64 3) ∧ w'.cell? ⟨w.heap.size, 1, none⟩ = some (.bool true)) ∧ (w'.cell? ⟨w.heap.size + 1, 0, none⟩ = some (.bool false) ∧ w'.cell? ⟨w.heap.size + 1, 1, none⟩ = some (.int .i64 n) ∧ w'.cell? ⟨w.heap.size + 1, 2, none⟩ = some (.string s))))
      (first | exact SK.out _ (Below.refl _ _).drew | exact SK.out _ (Below.refl _ _) | exact SK.out _ HC.out | exact SK.out _ HA.out | fail "keep")
      ((first
        | (go_at_call 73; (with_reducible refine (C1.out _ (by first | exact (Below.refl _ _).drew | exact (Below.refl _ _))).mono ?_); rintro e wA ⟨rfl, hA⟩; have HA := Lib.hid hA; clear hA)
        | (go_at_call 98; (with_reducible refine (C2.out _ HA.out).mono ?_); rintro e wC ⟨rfl, hC⟩; have HC := Lib.hid hC; clear hC)))
    go_wp2_with fail
    go_ret2
    exact ⟨rfl, up BA.out HC.out⟩

set_option maxHeartbeats 8000000 in
theorem bits4 (u : Bool) (c : Cl.C) (w : World) (T : TA w) (hi : Cl.I64 c.n) (hm : c.s.size ≤ 1000000) (e0 : Nat) (he : Cl.chk u 4 c = e0) (x : ByteArray) (hx : (if e0 = 0 then str (Cl.bts u 4 c) else ⟨#[]⟩) = x) (hz : e0 = 0) (hu : c.u = false) : Calls Tryz.prog 52 #[tv u 4, cv c] w fun e w' => e = .returned (.tuple #[.string x, .int .i64 (e0 : Nat)]) ∧ Below w.heap.size w w' := by
  rw [if_pos hz] at hx
  subst hz
  have hk : Cl.isK 4 c = true := by
    rcases Cl.of_parts (Cl.chk_ok he).2 with h | h
    · rw [h.1] at hu; cases hu
    · exact h.2
  have B0 := Lib.hid (BX.start w u 4 c)
  have CC := Lib.hid (fun w1 (hb : Below w.heap.size w w1) => checks u 4 c w1 (T.later hb) hi hm 0 he)
  have CI := Lib.hid (fun w1 (hb : Below w.heap.size w w1) => kf4.bits c w1 _ (T.later hb) hi hk rfl)
  have hx2 : (if u = true then (⟨#[1]⟩ : ByteArray) ++ str (Cl.body 4 c) else str (Cl.body 4 c)) = x := by
    rw [← hx, bts_some hu]
    cases u
    · rw [if_neg (by simp), if_neg (by simp), List.nil_append]
    · rw [if_pos rfl, if_pos rfl, str_append]; rfl
  have hsz : (str (Cl.body 4 c)).size ≤ 2060 := by
    have h := Cl.bts_size (u := u) (Cl.chk_ok he).1 (Cl.chk_ok he).2
    have : (Cl.body 4 c).length ≤ (Cl.bts u 4 c).length := by
      rw [bts_some hu, List.length_append]; omega
    rw [str_size]; omega
  generalize str (Cl.body 4 c) = y at *
  clear hx he hi hm T hk
  obtain ⟨u0, n, s⟩ := c
  simp only at hu
  subst hu
  unfold tv cv at CC ⊢
  unfold cv at CI
  simp only at B0 CC CI ⊢
  cases u
  · skip
    obtain rfl : y = x := hx2
    clear hsz
    go_enter Tryz.func52, Tryz.ntmps52
    go_wp2_with fail
    ((with_reducible refine (CC.out _ B0.out.b).mono ?_); rintro e wb ⟨rfl, b1⟩)
    have BB := Lib.hid (B0.out.later b1)
    have BA := Lib.hid BB.out.b
    obtain ⟨⟨t0, t1⟩, ⟨c0, c1, c2⟩⟩ := BB.out.lies
    simp only at t0 t1 c0 c1 c2
    clear b1
    have SK := Lib.hid (fun w1 (hb : Below wb.heap.size wb w1) => (⟨hb, (BB.out.later hb).lies⟩ : Below wb.heap.size wb w1 ∧ _))
    simp only at SK
    have C1 := Lib.hid (fun w1 (hb : Below wb.heap.size wb w1) => (kindOf4 false w1).mono (fun e w' h => (⟨h.1, up hb h.2⟩ : e = _ ∧ Below wb.heap.size wb w')))
    have C2 := Lib.hid (fun w1 (hb : Below wb.heap.size wb w1) => (CI.out w1 (up BA.out hb)).mono (fun e w' h => (⟨h.1, up hb h.2⟩ : e = _ ∧ Below wb.heap.size wb w')))
    unfold tv kv4 at C1
    clear CI
    have hf : ∀ w, (Instr.field 104 (.agg #[.func (Fn.func 101) #[] #[], .func (Fn.func 102) #[] #[], .func (Fn.func 103) #[] #[], .func (Fn.func 104) #[] #[], .func (Fn.func 105) #[] #[]]) 3).run Tryz.prog w = .ok (.func (Fn.func 104) #[] #[]) w := fun _ => by kernel_rfl
    go_wp2_with fail
    go_region_held3 (fun w' => Below wb.heap.size wb w' ∧ ((w'.cell? ⟨w.heap.size, 0, none⟩ = some (.int .i64 4) ∧ w'.cell? ⟨w.heap.size, 1, none⟩ = some (.bool false)) ∧ (w'.cell? ⟨w.heap.size + 1, 0, none⟩ = some (.bool false) ∧ w'.cell? ⟨w.heap.size + 1, 1, none⟩ = some (.int .i64 n) ∧ w'.cell? ⟨w.heap.size + 1, 2, none⟩ = some (.string s))))
      (first | exact SK.out _ (Below.refl _ _).drew | exact SK.out _ (Below.refl _ _) | exact SK.out _ HC.out | exact SK.out _ HA.out | fail "keep")
      ((first
        | (go_at_call 73; (with_reducible refine (C1.out _ (by first | exact (Below.refl _ _).drew | exact (Below.refl _ _))).mono ?_); rintro e wA ⟨rfl, hA⟩; have HA := Lib.hid hA; clear hA)
        | (go_at_call 104; (with_reducible refine (C2.out _ HA.out).mono ?_); rintro e wC ⟨rfl, hC⟩; have HC := Lib.hid hC; clear hC)))
    go_wp2_with fail
    go_ret2
    exact ⟨rfl, up BA.out HC.out⟩
  · skip
    have z1 : (⟨#[1]⟩ : ByteArray).size + y.size ≤ 9223372036854775807 := by show 1 + _ ≤ _; omega
    have n1 : ¬ 9223372036854775807 < (⟨#[1]⟩ : ByteArray).size + y.size := by omega
    have n2 : ¬ 9223372036854775807 < 1 + y.size := by omega
    obtain rfl : (⟨#[1]⟩ : ByteArray) ++ y = x := hx2
    clear hsz
    go_enter Tryz.func52, Tryz.ntmps52
    go_wp2_with fail
    ((with_reducible refine (CC.out _ B0.out.b).mono ?_); rintro e wb ⟨rfl, b1⟩)
    have BB := Lib.hid (B0.out.later b1)
    have BA := Lib.hid BB.out.b
    obtain ⟨⟨t0, t1⟩, ⟨c0, c1, c2⟩⟩ := BB.out.lies
    simp only at t0 t1 c0 c1 c2
    clear b1
    have SK := Lib.hid (fun w1 (hb : Below wb.heap.size wb w1) => (⟨hb, (BB.out.later hb).lies⟩ : Below wb.heap.size wb w1 ∧ _))
    simp only at SK
    have C1 := Lib.hid (fun w1 (hb : Below wb.heap.size wb w1) => (kindOf4 true w1).mono (fun e w' h => (⟨h.1, up hb h.2⟩ : e = _ ∧ Below wb.heap.size wb w')))
    have C2 := Lib.hid (fun w1 (hb : Below wb.heap.size wb w1) => (CI.out w1 (up BA.out hb)).mono (fun e w' h => (⟨h.1, up hb h.2⟩ : e = _ ∧ Below wb.heap.size wb w')))
    unfold tv kv4 at C1
    clear CI
    have hf : ∀ w, (Instr.field 104 (.agg #[.func (Fn.func 101) #[] #[], .func (Fn.func 102) #[] #[], .func (Fn.func 103) #[] #[], .func (Fn.func 104) #[] #[], .func (Fn.func 105) #[] #[]]) 3).run Tryz.prog w = .ok (.func (Fn.func 104) #[] #[]) w := fun _ => by kernel_rfl
    go_wp2_with fail
    go_region_held3 (fun w' => Below wb.heap.size wb w' ∧ ((w'.cell? ⟨w.heap.size, 0, none⟩ = some (.int .i64 4) ∧ w'.cell? ⟨w.heap.size, 1, none⟩ = some (.bool true)) ∧ (w'.cell? ⟨w.heap.size + 1, 0, none⟩ = some (.bool false) ∧ w'.cell? ⟨w.heap.size + 1, 1, none⟩ = some (.int .i64 n) ∧ w'.cell? ⟨w.heap.size + 1, 2, none⟩ = some (.string s))))
      (first | exact SK.out _ (Below.refl _ _).drew | exact SK.out _ (Below.refl _ _) | exact SK.out _ HC.out | exact SK.out _ HA.out | fail "keep")
      ((first
        | (go_at_call 73; (with_reducible refine (C1.out _ (by first | exact (Below.refl _ _).drew | exact (Below.refl _ _))).mono ?_); rintro e wA ⟨rfl, hA⟩; have HA := Lib.hid hA; clear hA)
        | (go_at_call 104; (with_reducible refine (C2.out _ HA.out).mono ?_); rintro e wC ⟨rfl, hC⟩; have HC := Lib.hid hC; clear hC)))
    go_wp2_with fail
    go_ret2
    exact ⟨rfl, up BA.out HC.out⟩

set_option maxHeartbeats 8000000 in
theorem bits5 (u : Bool) (c : Cl.C) (w : World) (T : TA w) (hi : Cl.I64 c.n) (hm : c.s.size ≤ 1000000) (e0 : Nat) (he : Cl.chk u 5 c = e0) (x : ByteArray) (hx : (if e0 = 0 then str (Cl.bts u 5 c) else ⟨#[]⟩) = x) (hz : e0 = 0) (hu : c.u = false) : Calls Tryz.prog 52 #[tv u 5, cv c] w fun e w' => e = .returned (.tuple #[.string x, .int .i64 (e0 : Nat)]) ∧ Below w.heap.size w w' := by
  rw [if_pos hz] at hx
  subst hz
  have hk : Cl.isK 5 c = true := by
    rcases Cl.of_parts (Cl.chk_ok he).2 with h | h
    · rw [h.1] at hu; cases hu
    · exact h.2
  have B0 := Lib.hid (BX.start w u 5 c)
  have CC := Lib.hid (fun w1 (hb : Below w.heap.size w w1) => checks u 5 c w1 (T.later hb) hi hm 0 he)
  have CI := Lib.hid (fun w1 (hb : Below w.heap.size w w1) => kf5.bits c w1 _ (T.later hb) hi hk rfl)
  have hx2 : (if u = true then (⟨#[1]⟩ : ByteArray) ++ str (Cl.body 5 c) else str (Cl.body 5 c)) = x := by
    rw [← hx, bts_some hu]
    cases u
    · rw [if_neg (by simp), if_neg (by simp), List.nil_append]
    · rw [if_pos rfl, if_pos rfl, str_append]; rfl
  have hsz : (str (Cl.body 5 c)).size ≤ 2060 := by
    have h := Cl.bts_size (u := u) (Cl.chk_ok he).1 (Cl.chk_ok he).2
    have : (Cl.body 5 c).length ≤ (Cl.bts u 5 c).length := by
      rw [bts_some hu, List.length_append]; omega
    rw [str_size]; omega
  generalize str (Cl.body 5 c) = y at *
  clear hx he hi hm T hk
  obtain ⟨u0, n, s⟩ := c
  simp only at hu
  subst hu
  unfold tv cv at CC ⊢
  unfold cv at CI
  simp only at B0 CC CI ⊢
  cases u
  · skip
    obtain rfl : y = x := hx2
    clear hsz
    go_enter Tryz.func52, Tryz.ntmps52
    go_wp2_with fail
    ((with_reducible refine (CC.out _ B0.out.b).mono ?_); rintro e wb ⟨rfl, b1⟩)
    have BB := Lib.hid (B0.out.later b1)
    have BA := Lib.hid BB.out.b
    obtain ⟨⟨t0, t1⟩, ⟨c0, c1, c2⟩⟩ := BB.out.lies
    simp only at t0 t1 c0 c1 c2
    clear b1
    have SK := Lib.hid (fun w1 (hb : Below wb.heap.size wb w1) => (⟨hb, (BB.out.later hb).lies⟩ : Below wb.heap.size wb w1 ∧ _))
    simp only at SK
    have C1 := Lib.hid (fun w1 (hb : Below wb.heap.size wb w1) => (kindOf5 false w1).mono (fun e w' h => (⟨h.1, up hb h.2⟩ : e = _ ∧ Below wb.heap.size wb w')))
    have C2 := Lib.hid (fun w1 (hb : Below wb.heap.size wb w1) => (CI.out w1 (up BA.out hb)).mono (fun e w' h => (⟨h.1, up hb h.2⟩ : e = _ ∧ Below wb.heap.size wb w')))
    unfold tv kv5 at C1
    clear CI
    have hf : ∀ w, (Instr.field 104 (.agg #[.func (Fn.func 106) #[] #[], .func (Fn.func 107) #[] #[], .func (Fn.func 108) #[] #[], .func (Fn.func 104) #[] #[], .func (Fn.func 105) #[] #[]]) 3).run Tryz.prog w = .ok (.func (Fn.func 104) #[] #[]) w := fun _ => by kernel_rfl
    go_wp2_with fail
    go_region_held3 (fun w' => Below wb.heap.size wb w' ∧ ((w'.cell? ⟨w.heap.size, 0, none⟩ = some (.int .i64 5) ∧ w'.cell? ⟨w.heap.size, 1, none⟩ = some (.bool false)) ∧ (w'.cell? ⟨w.heap.size + 1, 0, none⟩ = some (.bool false) ∧ w'.cell? ⟨w.heap.size + 1, 1, none⟩ = some (.int .i64 n) ∧ w'.cell? ⟨w.heap.size + 1, 2, none⟩ = some (.string s))))
      (first | exact SK.out _ (Below.refl _ _).drew | exact SK.out _ (Below.refl _ _) | exact SK.out _ HC.out | exact SK.out _ HA.out | fail "keep")
      ((first
        | (go_at_call 73; (with_reducible refine (C1.out _ (by first | exact (Below.refl _ _).drew | exact (Below.refl _ _))).mono ?_); rintro e wA ⟨rfl, hA⟩; have HA := Lib.hid hA; clear hA)
        | (go_at_call 104; (with_reducible refine (C2.out _ HA.out).mono ?_); rintro e wC ⟨rfl, hC⟩; have HC := Lib.hid hC; clear hC)))
    go_wp2_with fail
    go_ret2
    exact ⟨rfl, up BA.out HC.out⟩
  · skip
    have z1 : (⟨#[1]⟩ : ByteArray).size + y.size ≤ 9223372036854775807 := by show 1 + _ ≤ _; omega
    have n1 : ¬ 9223372036854775807 < (⟨#[1]⟩ : ByteArray).size + y.size := by omega
    have n2 : ¬ 9223372036854775807 < 1 + y.size := by omega
    obtain rfl : (⟨#[1]⟩ : ByteArray) ++ y = x := hx2
    clear hsz
    go_enter Tryz.func52, Tryz.ntmps52
    go_wp2_with fail
    ((with_reducible refine (CC.out _ B0.out.b).mono ?_); rintro e wb ⟨rfl, b1⟩)
    have BB := Lib.hid (B0.out.later b1)
    have BA := Lib.hid BB.out.b
    obtain ⟨⟨t0, t1⟩, ⟨c0, c1, c2⟩⟩ := BB.out.lies
    simp only at t0 t1 c0 c1 c2
    clear b1
    have SK := Lib.hid (fun w1 (hb : Below wb.heap.size wb w1) => (⟨hb, (BB.out.later hb).lies⟩ : Below wb.heap.size wb w1 ∧ _))
    simp only at SK
    have C1 := Lib.hid (fun w1 (hb : Below wb.heap.size wb w1) => (kindOf5 true w1).mono (fun e w' h => (⟨h.1, up hb h.2⟩ : e = _ ∧ Below wb.heap.size wb w')))
    have C2 := Lib.hid (fun w1 (hb : Below wb.heap.size wb w1) => (CI.out w1 (up BA.out hb)).mono (fun e w' h => (⟨h.1, up hb h.2⟩ : e = _ ∧ Below wb.heap.size wb w')))
    unfold tv kv5 at C1
    clear CI
    have hf : ∀ w, (Instr.field 104 (.agg #[.func (Fn.func 106) #[] #[], .func (Fn.func 107) #[] #[], .func (Fn.func 108) #[] #[], .func (Fn.func 104) #[] #[], .func (Fn.func 105) #[] #[]]) 3).run Tryz.prog w = .ok (.func (Fn.func 104) #[] #[]) w := fun _ => by kernel_rfl
    go_wp2_with fail
    go_region_held3 (fun w' => Below wb.heap.size wb w' ∧ ((w'.cell? ⟨w.heap.size, 0, none⟩ = some (.int .i64 5) ∧ w'.cell? ⟨w.heap.size, 1, none⟩ = some (.bool true)) ∧ (w'.cell? ⟨w.heap.size + 1, 0, none⟩ = some (.bool false) ∧ w'.cell? ⟨w.heap.size + 1, 1, none⟩ = some (.int .i64 n) ∧ w'.cell? ⟨w.heap.size + 1, 2, none⟩ = some (.string s))))
      (first | exact SK.out _ (Below.refl _ _).drew | exact SK.out _ (Below.refl _ _) | exact SK.out _ HC.out | exact SK.out _ HA.out | fail "keep")
      ((first
        | (go_at_call 73; (with_reducible refine (C1.out _ (by first | exact (Below.refl _ _).drew | exact (Below.refl _ _))).mono ?_); rintro e wA ⟨rfl, hA⟩; have HA := Lib.hid hA; clear hA)
        | (go_at_call 104; (with_reducible refine (C2.out _ HA.out).mono ?_); rintro e wC ⟨rfl, hC⟩; have HC := Lib.hid hC; clear hC)))
    go_wp2_with fail
    go_ret2
    exact ⟨rfl, up BA.out HC.out⟩

set_option maxHeartbeats 8000000 in
theorem bitss (u : Bool) (k : Int) (c : Cl.C) (w : World) (T : TA w) (hi : Cl.I64 c.n) (hm : c.s.size ≤ 1000000) (e0 : Nat) (he : Cl.chk u k c = e0) (x : ByteArray) (hx : (if e0 = 0 then str (Cl.bts u k c) else ⟨#[]⟩) = x) : Calls Tryz.prog 52 #[tv u k, cv c] w fun e w' => e = .returned (.tuple #[.string x, .int .i64 (e0 : Nat)]) ∧ Below w.heap.size w w' := by
  by_cases hz : e0 = 0
  · cases hu : c.u with
    | true => exact bitsNull u k c w T hi hm e0 he x hx hz hu
    | false =>
      have hk := (Cl.chk_ok (he.trans hz)).1
      obtain ⟨k0, k5⟩ := Cl.may_le hk
      rcases (show k = 1 ∨ k = 2 ∨ k = 3 ∨ k = 4 ∨ k = 5 by omega) with rfl | rfl | rfl | rfl | rfl
      · exact bits1 u c w T hi hm e0 he x hx hz hu
      · exact bits2 u c w T hi hm e0 he x hx hz hu
      · exact bits3 u c w T hi hm e0 he x hx hz hu
      · exact bits4 u c w T hi hm e0 he x hx hz hu
      · exact bits5 u c w T hi hm e0 he x hx hz hu
  · exact bitsErr u k c w T hi hm e0 he x hx hz

end Go.Proofs.YtigcgkhcbmnboaaGreatDoor
