/- The law's works. -/
import Derived.Test.YtenfjmdajlhfoaaDcK
namespace Go.Proofs.Ytenfjmdajlhfoaa
open Go.RowKit
set_option linter.unusedVariables false
set_option maxRecDepth 100000

set_option maxHeartbeats 16000000 in
theorem works (w : World) : Calls Try.prog 20 #[] w fun e w' => e = .returned (.bool true) ∧ Below w.heap.size w w' := by
  go_enter Try.func20, Try.ntmps20
  go_wp2_with fail
  refine (split _ _ _ (rdT_lit w [(⟨#[98]⟩ : ByteArray), ⟨#[97]⟩, ⟨#[98]⟩, ⟨#[]⟩, ⟨#[97]⟩] _ 5 rfl rfl (by simp)) (by simp) _ k1).mono ?_
  rintro e w1 ⟨dv, nv, rfl, od, on, b1⟩
  have B1 := Lib.hid (up (up_new w _) b1)
  have OD := Lib.hid od
  have ON := Lib.hid on
  clear od on b1
  go_wp2_with fail
  refine (eqTexts _ _ _ _ _ (RdT.later (RdT.of OD.out) (up_new _ _)) (rdT_lit w1 [(⟨#[98]⟩ : ByteArray), ⟨#[97]⟩, ⟨#[]⟩] _ 3 rfl rfl (by simp)) (by simp) true (by simp)).mono ?_
  rintro e w2 ⟨rfl, b2⟩
  have B2 := Lib.hid (up B1.out (up (up_new w1 _) b2))
  have ON2 := Lib.hid (OwnI.later ON.out (up (up_new w1 _) b2))
  clear b2 OD ON B1
  go_wp2_with fail
  refine (eqInts _ _ _ _ _ (RdI.later (RdI.of ON2.out) (up_new _ _)) (rdI_lit w2 [0, 1, 0, 2, 1] _ 5 rfl rfl (by simp)) (by simp [ofN]) true (by simp [ofN])).mono ?_
  rintro e w3 ⟨rfl, b3⟩
  have B3 := Lib.hid (up B2.out (up (up_new w2 _) b3))
  clear b3 ON2 B2
  go_wp2_with fail
  refine (joinsT _ _ _ _ [(⟨#[98]⟩ : ByteArray), ⟨#[97]⟩] [0, 1, 1] (some [⟨#[98]⟩, ⟨#[97]⟩, ⟨#[97]⟩]) _ (RdT.later (RdT.later (rdT_lit w3 [(⟨#[98]⟩ : ByteArray), ⟨#[97]⟩] _ 2 rfl rfl (by simp)) (up_new _ _)) (up_new _ _)) (RdI.later (rdI_lit' (w3.alloc _) [0, 1, 1] _ 3 _ (by rw [World.size_alloc]) rfl rfl (by simp)) (up_new _ _))
    (rdT_lit' ((w3.alloc _).alloc _) [(⟨#[98]⟩ : ByteArray), ⟨#[97]⟩, ⟨#[97]⟩] _ 3 _ (by rw [World.size_alloc, World.size_alloc]) rfl rfl (by simp)) (by decide) (by simp) (by simp) k2 rfl).mono ?_
  rintro e w4 ⟨rfl, b4⟩
  have bb := up (up_new _ _) (up (up_new _ _) b4)
  have TW := Lib.hid (RdT.later (rdT_lit w3 [(⟨#[98]⟩ : ByteArray), ⟨#[97]⟩] _ 2 rfl rfl (by simp)) bb)
  have B4 := Lib.hid (up B3.out (up (up_new w3 _) bb))
  clear b4 bb B3
  generalize w3.heap.size = g3 at *
  go_wp2_with fail
  refine (joinsT _ _ _ _ [(⟨#[98]⟩ : ByteArray), ⟨#[97]⟩] [1, 0] none _ (RdT.later TW.out (up_new _ _)) (rdI_lit w4 [1, 0] _ 2 rfl rfl (by simp)) (Gn.Rd.nil _ _) (by decide) (by simp) (by simp) k3 rfl).mono ?_
  rintro e w5 ⟨rfl, b5⟩
  have TW5 := Lib.hid (RdT.later TW.out (up (up_new _ _) b5))
  have B5 := Lib.hid (up B4.out (up (up_new _ _) b5))
  clear b5 B4 TW
  go_wp2_with fail
  refine (joinsT _ _ _ _ [(⟨#[98]⟩ : ByteArray), ⟨#[97]⟩] [0, 0] none _ (RdT.later TW5.out (up_new _ _)) (rdI_lit w5 [0, 0] _ 2 rfl rfl (by simp)) (Gn.Rd.nil _ _) (by decide) (by simp) (by simp) k4 rfl).mono ?_
  rintro e w6 ⟨rfl, b6⟩
  have B6 := Lib.hid (up B5.out (up (up_new _ _) b6))
  clear b6 B5 TW5
  go_wp2_with fail
  refine (joinsT _ _ _ _ [(⟨#[98]⟩ : ByteArray), ⟨#[98]⟩] [0, 1] none _ (RdT.later (rdT_lit w6 [(⟨#[98]⟩ : ByteArray), ⟨#[98]⟩] _ 2 rfl rfl (by simp)) (up_new _ _)) (rdI_lit' (w6.alloc _) [0, 1] _ 2 _ (by rw [World.size_alloc]) rfl rfl (by simp)) (Gn.Rd.nil _ _) (by decide) (by simp) (by simp) k5 rfl).mono ?_
  rintro e w7 ⟨rfl, b7⟩
  have B7 := Lib.hid (up B6.out (up (up_new _ _) (up (up_new _ _) b7)))
  clear b7 B6
  go_wp2_with fail
  refine (putL _ _ [] [(⟨#[98]⟩ : ByteArray), ⟨#[97]⟩, ⟨#[98]⟩] _ (Rd.nil _ _) (rdT_lit w7 [(⟨#[98]⟩ : ByteArray), ⟨#[97]⟩, ⟨#[98]⟩] _ 3 rfl rfl (by simp)) (by simp) [2, 1, 98, 1, 97, 0, 1, 0] (by rw [k6, List.nil_append]) (by simp)).mono ?_
  rintro e w8 ⟨r8, rfl, o8, b8⟩
  have B8 := Lib.hid (up B7.out (up (up_new _ _) b8))
  have O8 := Lib.hid o8
  clear b8 B7 o8
  go_wp2_with fail
  refine (eq_yes _ _ _ _ _ (own_rd O8.out (up_new _ _)) (rd_lit w8 [2, 1, 98, 1, 97, 0, 1, 0] _ 8 rfl rfl (by simp) (by decide)) rfl).mono ?_
  rintro e w' ⟨rfl, rfl⟩
  have B9 := Lib.hid (up B8.out (up_new w8 (.cells (vals [2, 1, 98, 1, 97, 0, 1, 0]).toArray 5)))
  have O9 := Lib.hid (O8.out.later (up_new w8 (.cells (vals [2, 1, 98, 1, 97, 0, 1, 0]).toArray 5)))
  clear O8 B8
  generalize w8.alloc (.cells (vals [2, 1, 98, 1, 97, 0, 1, 0]).toArray 5) = w9 at *
  generalize w8.heap.size = g8 at *
  go_wp2_with fail
  refine (getsT _ _ [2, 1, 98, 1, 97, 0, 1, 0] 3 1 8 0 [(⟨#[98]⟩ : ByteArray), ⟨#[97]⟩, ⟨#[98]⟩] 8 0 _ (own_rd O9.out (up_new _ _)) (rdT_lit w9 [(⟨#[98]⟩ : ByteArray), ⟨#[97]⟩, ⟨#[98]⟩] _ 3 rfl rfl (by simp)) (by omega) (by omega) (by omega) (by omega) k7 rfl rfl (by simp)).mono ?_
  rintro e w10 ⟨rfl, b10⟩
  have B10 := Lib.hid (up B9.out (up (up_new _ _) b10))
  have O10 := Lib.hid (O9.out.later (up (up_new _ _) b10))
  clear b10 O9 B9
  go_wp2_with fail
  refine (getsT _ _ [2, 1, 98, 1, 97, 0, 1, 0] 3 0 0 5 [] 0 5 _ O10.out.rd (Gn.Rd.nil _ _) (by omega) (by omega) (by omega) (by omega) k8 rfl rfl (by simp)).mono ?_
  rintro e w11 ⟨rfl, b11⟩
  have B11 := Lib.hid (up B10.out b11)
  have O11 := Lib.hid (O10.out.later b11)
  clear b11 O10 B10
  go_wp2_with fail
  refine (getsT _ _ [2, 1, 98, 1, 97, 0, 1, 0] 2 1 7 0 [(⟨#[98]⟩ : ByteArray), ⟨#[97]⟩] 7 0 _ (own_rd O11.out (up_new _ _)) (rdT_lit w11 [(⟨#[98]⟩ : ByteArray), ⟨#[97]⟩] _ 2 rfl rfl (by simp)) (by omega) (by omega) (by omega) (by omega) k9 rfl rfl (by simp)).mono ?_
  rintro e w12 ⟨rfl, b12⟩
  have B12 := Lib.hid (up B11.out (up (up_new _ _) b12))
  clear b12 O11 B11
  go_wp2_with fail
  refine (getsT _ _ [1, 1, 98, 1] 1 9 0 150 [] 0 150 _ (rd_lit w12 [1, 1, 98, 1] _ 4 rfl rfl (by simp) (by decide)) (Gn.Rd.nil _ _) (by omega) (by omega) (by omega) (by omega) k10 rfl rfl (by simp)).mono ?_
  rintro e w13 ⟨rfl, b13⟩
  have B13 := Lib.hid (up B12.out (up (up_new _ _) b13))
  clear b13 B12
  go_wp2_with fail
  refine (getsT _ _ [2] 1 9 0 5 [] 0 5 _ (rd_lit w13 [2] _ 1 rfl rfl (by simp) (by decide)) (Gn.Rd.nil _ _) (by omega) (by omega) (by omega) (by omega) k11 rfl rfl (by simp)).mono ?_
  rintro e w14 ⟨rfl, b14⟩
  have B14 := Lib.hid (up B13.out (up (up_new _ _) b14))
  clear b14 B13
  go_wp2_with fail
  refine (getsT _ _ [0] 0 0 1 0 [] 1 0 _ (rd_lit w14 [0] _ 1 rfl rfl (by simp) (by decide)) (Gn.Rd.nil _ _) (by omega) (by omega) (by omega) (by omega) k12 rfl rfl (by simp)).mono ?_
  rintro e w15 ⟨rfl, b15⟩
  have B15 := Lib.hid (up B14.out (up (up_new _ _) b15))
  clear b15 B14
  go_wp2_with fail
  refine (getsT _ _ [] 0 0 0 3 [] 0 3 _ (Rd.nil _ _) (Gn.Rd.nil _ _) (by omega) (by omega) (by omega) (by omega) k13 rfl rfl (by simp)).mono ?_
  rintro e w16 ⟨rfl, b16⟩
  have B16 := Lib.hid (up B15.out b16)
  clear b16 B15
  go_wp2_with fail
  refine (getsT _ _ [0] (-1) 0 0 6 [] 0 6 _ (rd_lit w16 [0] _ 1 rfl rfl (by simp) (by decide)) (Gn.Rd.nil _ _) (by omega) (by omega) (by omega) (by omega) k14 rfl rfl (by simp)).mono ?_
  rintro e w17 ⟨rfl, b17⟩
  have B17 := Lib.hid (up B16.out (up (up_new _ _) b17))
  clear b17 B16
  go_wp2_with fail
  go_ret
  exact ⟨rfl, B17.out⟩
end Go.Proofs.Ytenfjmdajlhfoaa
