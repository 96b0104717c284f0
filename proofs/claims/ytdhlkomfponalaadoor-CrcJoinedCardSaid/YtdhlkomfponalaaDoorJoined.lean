/- The walk of CrcJoined: it returns true and changes nothing that was there. -/
import Derived.Test.YtdhlkomfponalaaDoorLaws
namespace Go.Proofs.YtdhlkomfponalaaDoor
open Go.RowKit
set_option linter.unusedVariables false

/-- append onto what is owned, where a guard lets it be. -/
theorem wpList_app_guard {w : World} {ops : Array Oper} {rest : List Oper} {o : Oper} {a : Act} {Q : Exit → Act → World → Prop} (hw : Region.wanted o (yielded ops a.tmps) = true) (s x : Operand)
    (ho : o.op = .call { callee := .builtin .append, args := #[s, x], argTypes := #[23, 23] })
    (base : Nat) (v : Value) (l : List Nat) (hs : a.eval s = v) (hown : Own w base v l) (u : Value) (r : List Nat) (hx : a.eval x = u) (hr : Rd w w.heap.size u r)
    (hlen : l.length + r.length ≤ 1000000000) (hbase : base ≤ w.heap.size)
    (h : ∀ v' w', Own w' base v' (l ++ r) → Below base w w' → wpList Tryd.prog ops Q rest (a.put o.dst v') w') : wpList Tryd.prog ops Q (o :: rest) a w := by
  refine wpList_step fun K hK => ?_
  rw [if_pos hw]
  obtain ⟨v', w', hrun, h2, h3⟩ := run_app w o.type base v l hown u r hr hlen hbase
  unfold Oper.wp execOp
  simp only [ho, resolve, invoke, builtin, Sem.run_bind, Sem.run_pure, Result.andThen_ok, List.map_toArray, List.map_cons, List.map_nil, hs, hx, hrun]
  exact hK _ _ (h v' w' h2 h3)

set_option maxHeartbeats 2000000 in
set_option maxRecDepth 100000 in
theorem crcJoined (va : Value) (la : List Nat) (vb : Value) (lb : List Nat) (w : World) (ha : Rd w w.heap.size va la) (hb : Rd w w.heap.size vb lb) (T : Tab w) :
    Calls Tryd.prog 6 #[va, vb] w fun e w' => e = .returned (.bool true) ∧ Below w.heap.size w w' := by
  have l1 : (la.take 300).length ≤ 300 := by rw [List.length_take]; omega
  have l2 : (lb.take 300).length ≤ 300 := by rw [List.length_take]; omega
  have U1 : Hid (Crc.upd 0 (la.take 300) < 4294967296) := Lib.hid (Crc.upd_lt _ _ (by omega) (fun x hx => ha.bytes x (List.mem_of_mem_take hx)))
  have U2 : Hid (Crc.upd 0 (lb.take 300) < 4294967296) := Lib.hid (Crc.upd_lt _ _ (by omega) (fun x hx => hb.bytes x (List.mem_of_mem_take hx)))
  have U3 := Lib.hid (Crc.upd_join (la.take 300) (lb.take 300))
  go_enter Tryd.func6, Tryd.ntmps6
  go_wp2_with fail
  refine (cut300 va la _ ha).mono ?_
  rintro e w1 ⟨r1, rfl, ho1, b1⟩
  go_wp2_with fail
  refine (cut300 vb lb _ (hb.later (Nat.le_refl _) b1)).mono ?_
  rintro e w2 ⟨r2, rfl, ho2, b2⟩
  have o1 := ho1.later b2
  have T2 := (T.later b1).later b2
  have B2 := up b1 b2
  clear ha hb ho1 b1 b2 T
  generalize la.take 300 = LA at *
  generalize lb.take 300 = LB at *
  go_wp2_with fail
  refine (sum _ _ _ o1.rd T2).mono ?_
  rintro e w' ⟨rfl, rfl⟩
  go_wp2_with fail
  refine (sum _ _ _ ho2.rd T2).mono ?_
  rintro e w' ⟨rfl, rfl⟩
  obtain ⟨a2, c2, e2, _, _, _⟩ := id ho2.rd
  subst e2
  go_wp2_with fail
  refine (join _ _ LB.length _ U1.out U2.out (by omega) T2).mono ?_
  rintro e w3 ⟨rfl, b3⟩
  rw [U3.out]
  have T3 := T2.later b3
  have o2 := ho2.later b3
  have o1' := o1.later b3
  have B3 := up B2 b3
  clear ho2 o1 b3 B2 T2
  go_wp2_with fail
  refine (copyBytes _ _ _ o1'.rd (by omega)).mono ?_
  rintro e w4 ⟨r4, rfl, ho4, b4⟩
  go_wp2_with (at_builtin
               refine wpList_app_guard rfl (.tmp 26) (.tmp 27) rfl w3.heap.size r4 _ rfl ho4 (.slice a2 LB.length c2) _ rfl (o2.later b4).rd (by omega) b4.size ?_
               intro v5 w5 ho5 b5)
  have B5 := up B3 (b4.trans b5)
  have T5 := T3.later (b4.trans b5)
  clear ho4 b4 b5 B3 T3
  refine (sum _ _ _ ho5.rd T5).mono ?_
  rintro e w' ⟨rfl, rfl⟩
  go_wp2_with fail
  refine (works _ T5).mono ?_
  rintro e w6 ⟨rfl, b6⟩
  go_wp2
  go_ret
  exact ⟨rfl, up B5 b6⟩
end Go.Proofs.YtdhlkomfponalaaDoor
