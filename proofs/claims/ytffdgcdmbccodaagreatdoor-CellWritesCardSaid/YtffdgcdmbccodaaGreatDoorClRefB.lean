/- The reference's Bits. -/
import Derived.Test.YtffdgcdmbccodaaGreatDoorClRef
import Derived.Test.YtffdgcdmbccodaaGreatDoorRquote
namespace Go.Proofs.YtffdgcdmbccodaaGreatDoor
open Go.RowKit
set_option linter.unusedVariables false
set_option maxRecDepth 100000

theorem out_str (w0 : World) (base : Nat) (l : List Nat) (x : ByteArray) (hx : str l = x) (v : Value) (w : World) (h : Own w base v l) : (convert 44 9 v).run Tryz.prog w = .ok (.string x) w := by
  rw [← hx]; exact run_str w _ v l h.rd
theorem rNumber (u : Bool) (k : Int) (w : World) (b : Bool) (hb : decide (k ≤ 3) = b) : Calls Tryz.prog 77 #[tv u k] w fun e w' => e = .returned (.bool b) ∧ Below w.heap.size w w' := by
  have hb2 := hb
  unfold tv
  go_enter Tryz.func77, Tryz.ntmps77
  go_wp2_with fail
  go_ret
  exact ⟨by simp, box_new _ _⟩
set_option maxHeartbeats 2000000 in
theorem rb1_0 (u : Bool) (s : ByteArray) (w : World) (hm : s.size ≤ 1000000) (he : Cl.chk u 1 ⟨false, 0, s⟩ = 0) (x : ByteArray) (hx : str (Cl.bts u 1 ⟨false, 0, s⟩) = x) : Calls Tryz.prog 40 #[tv u 1, cv ⟨false, 0, s⟩] w fun e w' => e = .returned (.tuple #[.string x, .int .i64 0]) ∧ Below w.heap.size w w' := by
  have B0 := Lib.hid (BX.start w u 1 ⟨false, 0, s⟩)
  have CC := Lib.hid (fun w => rCheck u 1 ⟨false, 0, s⟩ w hm 0 he)
  unfold tv cv at CC
  unfold tv cv
  simp only at CC B0 ⊢
  clear he
  go_enter Tryz.func40, Tryz.ntmps40
  go_wp2_with fail
  ((with_reducible refine (CC.out _).mono ?_); rintro e w1 ⟨rfl, b1⟩)
  have B1 := Lib.hid (B0.out.later b1)
  clear b1
  obtain ⟨⟨t0, t1⟩, ⟨c0, c1, c2⟩⟩ := B1.out.lies
  simp only at c0 c1 c2
  cases u
  · have HX := Lib.hid (fun v w => out_str w w1.heap.size ([] ++ [0]) x hx v w)
    clear hx
    go_wp2_with (at_builtin; refine wpList_app rfl _ _ rfl w1.heap.size _ ([]) rfl ((Own.nil w1 w1.heap.size).later (up_new _ _)) _ [0] rfl (rd_lit w1 _ _ 1 rfl rfl (by simp) (by simp; try omega)) (by simp; try omega) (by simp; try omega) ?_; intro v3 w3 o3 b3; have hcv := HX.out v3 w3 o3)
    go_ret2
    exact ⟨rfl, up B1.out.b ((up_new _ _).trans b3)⟩
  · have HX := Lib.hid (fun v w => out_str w w1.heap.size ([] ++ [1] ++ [0]) x hx v w)
    clear hx
    go_wp2_with (first | (at_builtin; refine wpList_app rfl _ _ rfl w1.heap.size _ ([]) rfl ((Own.nil w1 w1.heap.size).later (up_new _ _)) _ [1] rfl (rd_lit w1 _ _ 1 rfl rfl (by simp) (by simp; try omega)) (by simp; try omega) (by simp; try omega) ?_; intro v3 w3 o3 b3; have H3 := Lib.hid ((up_new w1 _).trans b3); have B3 := Lib.hid (B1.out.later H3.out); obtain ⟨⟨t0, t1⟩, ⟨c0, c1, c2⟩⟩ := B3.out.lies; simp only at c0 c1 c2; have z3 := H3.out.size) | (at_builtin; refine wpList_app rfl _ _ rfl w1.heap.size _ ([] ++ [1]) rfl (o3.later (up_new _ _)) _ [0] rfl (rd_lit w3 _ _ 1 rfl rfl (by simp) (by simp; try omega)) (by simp; try omega) (by simp; try omega) ?_; intro v4 w4 o4 b4; have hcv := HX.out v4 w4 o4))
    go_ret2
    exact ⟨rfl, up B1.out.b ((H3.out.alloc z3 _).trans b4)⟩
set_option maxHeartbeats 2000000 in
theorem rb1_1 (u : Bool) (s : ByteArray) (w : World) (hm : s.size ≤ 1000000) (he : Cl.chk u 1 ⟨false, 1, s⟩ = 0) (x : ByteArray) (hx : str (Cl.bts u 1 ⟨false, 1, s⟩) = x) : Calls Tryz.prog 40 #[tv u 1, cv ⟨false, 1, s⟩] w fun e w' => e = .returned (.tuple #[.string x, .int .i64 0]) ∧ Below w.heap.size w w' := by
  have B0 := Lib.hid (BX.start w u 1 ⟨false, 1, s⟩)
  have CC := Lib.hid (fun w => rCheck u 1 ⟨false, 1, s⟩ w hm 0 he)
  unfold tv cv at CC
  unfold tv cv
  simp only at CC B0 ⊢
  clear he
  go_enter Tryz.func40, Tryz.ntmps40
  go_wp2_with fail
  ((with_reducible refine (CC.out _).mono ?_); rintro e w1 ⟨rfl, b1⟩)
  have B1 := Lib.hid (B0.out.later b1)
  clear b1
  obtain ⟨⟨t0, t1⟩, ⟨c0, c1, c2⟩⟩ := B1.out.lies
  simp only at c0 c1 c2
  cases u
  · have HX := Lib.hid (fun v w => out_str w w1.heap.size ([] ++ [1]) x hx v w)
    clear hx
    go_wp2_with (at_builtin; refine wpList_app rfl _ _ rfl w1.heap.size _ ([]) rfl ((Own.nil w1 w1.heap.size).later (up_new _ _)) _ [1] rfl (rd_lit w1 _ _ 1 rfl rfl (by simp) (by simp; try omega)) (by simp; try omega) (by simp; try omega) ?_; intro v3 w3 o3 b3; have hcv := HX.out v3 w3 o3)
    go_ret2
    exact ⟨rfl, up B1.out.b ((up_new _ _).trans b3)⟩
  · have HX := Lib.hid (fun v w => out_str w w1.heap.size ([] ++ [1] ++ [1]) x hx v w)
    clear hx
    go_wp2_with (first | (at_builtin; refine wpList_app rfl _ _ rfl w1.heap.size _ ([]) rfl ((Own.nil w1 w1.heap.size).later (up_new _ _)) _ [1] rfl (rd_lit w1 _ _ 1 rfl rfl (by simp) (by simp; try omega)) (by simp; try omega) (by simp; try omega) ?_; intro v3 w3 o3 b3; have H3 := Lib.hid ((up_new w1 _).trans b3); have B3 := Lib.hid (B1.out.later H3.out); obtain ⟨⟨t0, t1⟩, ⟨c0, c1, c2⟩⟩ := B3.out.lies; simp only at c0 c1 c2; have z3 := H3.out.size) | (at_builtin; refine wpList_app rfl _ _ rfl w1.heap.size _ ([] ++ [1]) rfl (o3.later (up_new _ _)) _ [1] rfl (rd_lit w3 _ _ 1 rfl rfl (by simp) (by simp; try omega)) (by simp; try omega) (by simp; try omega) ?_; intro v4 w4 o4 b4; have hcv := HX.out v4 w4 o4))
    go_ret2
    exact ⟨rfl, up B1.out.b ((H3.out.alloc z3 _).trans b4)⟩
set_option maxHeartbeats 2000000 in
theorem rb4 (u : Bool) (n : Int) (s : ByteArray) (w : World) (hm : s.size ≤ 1000000) (he : Cl.chk u 4 ⟨false, n, s⟩ = 0) (x : ByteArray) (hx : str (Cl.bts u 4 ⟨false, n, s⟩) = x) : Calls Tryz.prog 40 #[tv u 4, cv ⟨false, n, s⟩] w fun e w' => e = .returned (.tuple #[.string x, .int .i64 0]) ∧ Below w.heap.size w w' := by
  have B0 := Lib.hid (BX.start w u 4 ⟨false, n, s⟩)
  have CC := Lib.hid (fun w => rCheck u 4 ⟨false, n, s⟩ w hm 0 he)
  unfold tv cv at CC
  unfold tv cv
  simp only at CC B0 ⊢
  clear he
  go_enter Tryz.func40, Tryz.ntmps40
  go_wp2_with fail
  ((with_reducible refine (CC.out _).mono ?_); rintro e w1 ⟨rfl, b1⟩)
  have B1 := Lib.hid (B0.out.later b1)
  clear b1
  obtain ⟨⟨t0, t1⟩, ⟨c0, c1, c2⟩⟩ := B1.out.lies
  simp only at c0 c1 c2
  cases u
  · have CN := Lib.hid (fun w => rNumber false 4 w _ rfl)
    unfold tv at CN
    simp at CN
    go_wp2_with fail
    ((with_reducible refine (CN.out _).mono ?_); rintro e w2 ⟨rfl, b2⟩)
    have HO0 := Lib.hid ((Own.nil w1 w1.heap.size).later b2)
    have HB0 := Lib.hid b2
    have B2 := Lib.hid (B1.out.later HB0.out)
    clear b2 t0 t1 c0 c1 c2
    obtain ⟨⟨t0, t1⟩, ⟨c0, c1, c2⟩⟩ := B2.out.lies
    simp only at c0 c1 c2
    go_wp2_with fail
    go_loopw [7, 10] (fun v i wr => ∃ j : Nat, j ≤ s.size ∧ i = .int .i64 j ∧ Own wr w1.heap.size v ([] ++ Cl.esc0 ((bl s).take j)) ∧ Below w1.heap.size w1 wr) (fun _ i _ => s.size - (intOf i).toNat)
    case atStart => exact ⟨0, by omega, rfl, by simpa [Cl.esc0] using HO0.out, HB0.out⟩
    case round =>
      clear t0 t1 c0 c1 c2
      obtain ⟨j, hj, rfl, ho, hb⟩ := hrel
      have hel := (Cl.esc0_len ((bl s).take j)).2
      rw [List.length_take, bl_length] at hel
      have hws := hb.size
      obtain ⟨a, c, rfl, -⟩ := ho.rd
      have HO := Lib.hid ho
      have HB := Lib.hid hb
      have BR := Lib.hid (B1.out.later hb)
      obtain ⟨⟨t0, t1⟩, ⟨c0, c1, c2⟩⟩ := BR.out.lies
      simp only at c0 c1 c2
      clear ho hb
      by_cases hlt : j < s.size
      · have hx := bl_at s j hlt
        have hsu : Cl.esc0 ((bl s).take (j + 1)) = Cl.esc0 ((bl s).take j) ++ (if (bl s).getD j 0 = 0 then [0, 255] else [(bl s).getD j 0]) := by
          rw [take_snoc (bl s) j (by rw [bl_length]; exact hlt), Cl.esc0_append]; simp [Cl.esc0]
        have hxb := Utf.getD_byte (bl_byte s) j
        generalize (bl s).getD j 0 = y at *
        have HSU := Lib.hid hsu
        clear hsu
        generalize Cl.esc0 ((bl s).take j) = L at *
        by_cases hy : y = 0
        · subst hy
          go_wp2_with (first | (at_builtin; refine wpList_app rfl _ _ rfl w1.heap.size _ ([] ++ L) rfl (HO.out.later (up_new _ _)) _ [0] rfl (rd_lit wr _ _ 1 rfl rfl (by simp) (by simp; try omega)) (by simp; try omega) (by simp; try omega) ?_; intro v5 w5 o5 b5; have H5 := Lib.hid ((HB.out.alloc hws _).trans b5); have B5 := Lib.hid (B1.out.later H5.out); obtain ⟨⟨t0, t1⟩, ⟨c0, c1, c2⟩⟩ := B5.out.lies; simp only at c0 c1 c2; have z5 := H5.out.size) | (at_builtin; refine wpList_app rfl _ _ rfl w1.heap.size _ ([] ++ L ++ [0]) rfl (o5.later (up_new _ _)) _ [255] rfl (rd_lit w5 _ _ 1 rfl rfl (by simp) (by simp; try omega)) (by simp; try omega) (by simp; try omega) ?_; intro v6 w6 o6 b6))
          go_roundw
          case rel => exact ⟨j + 1, by omega, by go_num, by rw [HSU.out, if_pos rfl]; simpa [List.append_assoc] using o6, (H5.out.alloc z5 _).trans b6⟩
          case measure => simp [intOf]; omega
        · have d0 : ((y : Int) == 0) = false := by simp; omega
          go_wp2_with (at_builtin; refine wpList_app rfl _ _ rfl w1.heap.size _ ([] ++ L) rfl (HO.out.later (up_new _ _)) _ [y] rfl (rd_lit wr _ _ 1 rfl rfl (by simp) (by simp; try omega)) (by simp; try omega) (by simp; try omega) ?_; intro v5 w5 o5 b5; have H5 := Lib.hid ((HB.out.alloc hws _).trans b5); have B5 := Lib.hid (B1.out.later H5.out); obtain ⟨⟨t0, t1⟩, ⟨c0, c1, c2⟩⟩ := B5.out.lies; simp only at c0 c1 c2; have z5 := H5.out.size)
          go_roundw
          case rel => exact ⟨j + 1, by omega, by go_num, by rw [HSU.out, if_neg hy]; simpa [List.append_assoc] using o5, H5.out⟩
          case measure => simp [intOf]; omega
      · have HX := Lib.hid (fun v w => out_str w w1.heap.size ([] ++ Cl.esc0 ((bl s).take j) ++ [0, 0]) x (by rw [← hx, List.take_of_length_le (by rw [bl_length]; omega)]; rfl) v w)
        have hlt' : ¬ (j : Int) < (s.size : Int) := by omega
        generalize Cl.esc0 ((bl s).take j) = L at *
        go_wp2_with (at_builtin; refine wpList_app rfl _ _ rfl w1.heap.size _ ([] ++ L) rfl (HO.out.later (up_new _ _)) _ [0, 0] rfl (rd_lit wr _ _ 2 rfl rfl (by simp) (by simp; try omega)) (by simp; try omega) (by simp; try omega) ?_; intro v5 w5 o5 b5; have hcv := HX.out v5 w5 o5)
        go_ret2
        exact ⟨rfl, up B1.out.b ((HB.out.alloc hws _).trans b5)⟩
  · have CN := Lib.hid (fun w => rNumber true 4 w _ rfl)
    unfold tv at CN
    simp at CN
    go_wp2_with (at_builtin; refine wpList_app rfl _ _ rfl w1.heap.size _ ([]) rfl ((Own.nil w1 w1.heap.size).later (up_new _ _)) _ [1] rfl (rd_lit w1 _ _ 1 rfl rfl (by simp) (by simp; try omega)) (by simp; try omega) (by simp; try omega) ?_; intro v3 w3 o3 b3; have H3 := Lib.hid ((up_new w1 _).trans b3); have B3 := Lib.hid (B1.out.later H3.out); obtain ⟨⟨t0, t1⟩, ⟨c0, c1, c2⟩⟩ := B3.out.lies; simp only at c0 c1 c2; have z3 := H3.out.size)
    ((with_reducible refine (CN.out _).mono ?_); rintro e w2 ⟨rfl, b2⟩)
    have HO0 := Lib.hid (o3.later b2)
    have HB0 := Lib.hid (up H3.out b2)
    have B2 := Lib.hid (B1.out.later HB0.out)
    clear b2 t0 t1 c0 c1 c2
    obtain ⟨⟨t0, t1⟩, ⟨c0, c1, c2⟩⟩ := B2.out.lies
    simp only at c0 c1 c2
    go_wp2_with fail
    go_loopw [7, 10] (fun v i wr => ∃ j : Nat, j ≤ s.size ∧ i = .int .i64 j ∧ Own wr w1.heap.size v ([] ++ [1] ++ Cl.esc0 ((bl s).take j)) ∧ Below w1.heap.size w1 wr) (fun _ i _ => s.size - (intOf i).toNat)
    case atStart => exact ⟨0, by omega, rfl, by simpa [Cl.esc0] using HO0.out, HB0.out⟩
    case round =>
      clear t0 t1 c0 c1 c2
      obtain ⟨j, hj, rfl, ho, hb⟩ := hrel
      have hel := (Cl.esc0_len ((bl s).take j)).2
      rw [List.length_take, bl_length] at hel
      have hws := hb.size
      obtain ⟨a, c, rfl, -⟩ := ho.rd
      have HO := Lib.hid ho
      have HB := Lib.hid hb
      have BR := Lib.hid (B1.out.later hb)
      obtain ⟨⟨t0, t1⟩, ⟨c0, c1, c2⟩⟩ := BR.out.lies
      simp only at c0 c1 c2
      clear ho hb
      by_cases hlt : j < s.size
      · have hx := bl_at s j hlt
        have hsu : Cl.esc0 ((bl s).take (j + 1)) = Cl.esc0 ((bl s).take j) ++ (if (bl s).getD j 0 = 0 then [0, 255] else [(bl s).getD j 0]) := by
          rw [take_snoc (bl s) j (by rw [bl_length]; exact hlt), Cl.esc0_append]; simp [Cl.esc0]
        have hxb := Utf.getD_byte (bl_byte s) j
        generalize (bl s).getD j 0 = y at *
        have HSU := Lib.hid hsu
        clear hsu
        generalize Cl.esc0 ((bl s).take j) = L at *
        by_cases hy : y = 0
        · subst hy
          go_wp2_with (first | (at_builtin; refine wpList_app rfl _ _ rfl w1.heap.size _ ([] ++ [1] ++ L) rfl (HO.out.later (up_new _ _)) _ [0] rfl (rd_lit wr _ _ 1 rfl rfl (by simp) (by simp; try omega)) (by simp; try omega) (by simp; try omega) ?_; intro v5 w5 o5 b5; have H5 := Lib.hid ((HB.out.alloc hws _).trans b5); have B5 := Lib.hid (B1.out.later H5.out); obtain ⟨⟨t0, t1⟩, ⟨c0, c1, c2⟩⟩ := B5.out.lies; simp only at c0 c1 c2; have z5 := H5.out.size) | (at_builtin; refine wpList_app rfl _ _ rfl w1.heap.size _ ([] ++ [1] ++ L ++ [0]) rfl (o5.later (up_new _ _)) _ [255] rfl (rd_lit w5 _ _ 1 rfl rfl (by simp) (by simp; try omega)) (by simp; try omega) (by simp; try omega) ?_; intro v6 w6 o6 b6))
          go_roundw
          case rel => exact ⟨j + 1, by omega, by go_num, by rw [HSU.out, if_pos rfl]; simpa [List.append_assoc] using o6, (H5.out.alloc z5 _).trans b6⟩
          case measure => simp [intOf]; omega
        · have d0 : ((y : Int) == 0) = false := by simp; omega
          go_wp2_with (at_builtin; refine wpList_app rfl _ _ rfl w1.heap.size _ ([] ++ [1] ++ L) rfl (HO.out.later (up_new _ _)) _ [y] rfl (rd_lit wr _ _ 1 rfl rfl (by simp) (by simp; try omega)) (by simp; try omega) (by simp; try omega) ?_; intro v5 w5 o5 b5; have H5 := Lib.hid ((HB.out.alloc hws _).trans b5); have B5 := Lib.hid (B1.out.later H5.out); obtain ⟨⟨t0, t1⟩, ⟨c0, c1, c2⟩⟩ := B5.out.lies; simp only at c0 c1 c2; have z5 := H5.out.size)
          go_roundw
          case rel => exact ⟨j + 1, by omega, by go_num, by rw [HSU.out, if_neg hy]; simpa [List.append_assoc] using o5, H5.out⟩
          case measure => simp [intOf]; omega
      · have HX := Lib.hid (fun v w => out_str w w1.heap.size ([] ++ [1] ++ Cl.esc0 ((bl s).take j) ++ [0, 0]) x (by rw [← hx, List.take_of_length_le (by rw [bl_length]; omega)]; rfl) v w)
        have hlt' : ¬ (j : Int) < (s.size : Int) := by omega
        generalize Cl.esc0 ((bl s).take j) = L at *
        go_wp2_with (at_builtin; refine wpList_app rfl _ _ rfl w1.heap.size _ ([] ++ [1] ++ L) rfl (HO.out.later (up_new _ _)) _ [0, 0] rfl (rd_lit wr _ _ 2 rfl rfl (by simp) (by simp; try omega)) (by simp; try omega) (by simp; try omega) ?_; intro v5 w5 o5 b5; have hcv := HX.out v5 w5 o5)
        go_ret2
        exact ⟨rfl, up B1.out.b ((HB.out.alloc hws _).trans b5)⟩
set_option maxHeartbeats 2000000 in
theorem rb5 (u : Bool) (n : Int) (s : ByteArray) (w : World) (hm : s.size ≤ 1000000) (he : Cl.chk u 5 ⟨false, n, s⟩ = 0) (x : ByteArray) (hx : str (Cl.bts u 5 ⟨false, n, s⟩) = x) : Calls Tryz.prog 40 #[tv u 5, cv ⟨false, n, s⟩] w fun e w' => e = .returned (.tuple #[.string x, .int .i64 0]) ∧ Below w.heap.size w w' := by
  have B0 := Lib.hid (BX.start w u 5 ⟨false, n, s⟩)
  have CC := Lib.hid (fun w => rCheck u 5 ⟨false, n, s⟩ w hm 0 he)
  unfold tv cv at CC
  unfold tv cv
  simp only at CC B0 ⊢
  clear he
  go_enter Tryz.func40, Tryz.ntmps40
  go_wp2_with fail
  ((with_reducible refine (CC.out _).mono ?_); rintro e w1 ⟨rfl, b1⟩)
  have B1 := Lib.hid (B0.out.later b1)
  clear b1
  obtain ⟨⟨t0, t1⟩, ⟨c0, c1, c2⟩⟩ := B1.out.lies
  simp only at c0 c1 c2
  cases u
  · have CN := Lib.hid (fun w => rNumber false 5 w _ rfl)
    unfold tv at CN
    simp at CN
    go_wp2_with fail
    ((with_reducible refine (CN.out _).mono ?_); rintro e w2 ⟨rfl, b2⟩)
    have HO0 := Lib.hid ((Own.nil w1 w1.heap.size).later b2)
    have HB0 := Lib.hid b2
    have B2 := Lib.hid (B1.out.later HB0.out)
    clear b2 t0 t1 c0 c1 c2
    obtain ⟨⟨t0, t1⟩, ⟨c0, c1, c2⟩⟩ := B2.out.lies
    simp only at c0 c1 c2
    go_wp2_with fail
    go_loopw [7, 10] (fun v i wr => ∃ j : Nat, j ≤ s.size ∧ i = .int .i64 j ∧ Own wr w1.heap.size v ([] ++ Cl.esc0 ((bl s).take j)) ∧ Below w1.heap.size w1 wr) (fun _ i _ => s.size - (intOf i).toNat)
    case atStart => exact ⟨0, by omega, rfl, by simpa [Cl.esc0] using HO0.out, HB0.out⟩
    case round =>
      clear t0 t1 c0 c1 c2
      obtain ⟨j, hj, rfl, ho, hb⟩ := hrel
      have hel := (Cl.esc0_len ((bl s).take j)).2
      rw [List.length_take, bl_length] at hel
      have hws := hb.size
      obtain ⟨a, c, rfl, -⟩ := ho.rd
      have HO := Lib.hid ho
      have HB := Lib.hid hb
      have BR := Lib.hid (B1.out.later hb)
      obtain ⟨⟨t0, t1⟩, ⟨c0, c1, c2⟩⟩ := BR.out.lies
      simp only at c0 c1 c2
      clear ho hb
      by_cases hlt : j < s.size
      · have hx := bl_at s j hlt
        have hsu : Cl.esc0 ((bl s).take (j + 1)) = Cl.esc0 ((bl s).take j) ++ (if (bl s).getD j 0 = 0 then [0, 255] else [(bl s).getD j 0]) := by
          rw [take_snoc (bl s) j (by rw [bl_length]; exact hlt), Cl.esc0_append]; simp [Cl.esc0]
        have hxb := Utf.getD_byte (bl_byte s) j
        generalize (bl s).getD j 0 = y at *
        have HSU := Lib.hid hsu
        clear hsu
        generalize Cl.esc0 ((bl s).take j) = L at *
        by_cases hy : y = 0
        · subst hy
          go_wp2_with (first | (at_builtin; refine wpList_app rfl _ _ rfl w1.heap.size _ ([] ++ L) rfl (HO.out.later (up_new _ _)) _ [0] rfl (rd_lit wr _ _ 1 rfl rfl (by simp) (by simp; try omega)) (by simp; try omega) (by simp; try omega) ?_; intro v5 w5 o5 b5; have H5 := Lib.hid ((HB.out.alloc hws _).trans b5); have B5 := Lib.hid (B1.out.later H5.out); obtain ⟨⟨t0, t1⟩, ⟨c0, c1, c2⟩⟩ := B5.out.lies; simp only at c0 c1 c2; have z5 := H5.out.size) | (at_builtin; refine wpList_app rfl _ _ rfl w1.heap.size _ ([] ++ L ++ [0]) rfl (o5.later (up_new _ _)) _ [255] rfl (rd_lit w5 _ _ 1 rfl rfl (by simp) (by simp; try omega)) (by simp; try omega) (by simp; try omega) ?_; intro v6 w6 o6 b6))
          go_roundw
          case rel => exact ⟨j + 1, by omega, by go_num, by rw [HSU.out, if_pos rfl]; simpa [List.append_assoc] using o6, (H5.out.alloc z5 _).trans b6⟩
          case measure => simp [intOf]; omega
        · have d0 : ((y : Int) == 0) = false := by simp; omega
          go_wp2_with (at_builtin; refine wpList_app rfl _ _ rfl w1.heap.size _ ([] ++ L) rfl (HO.out.later (up_new _ _)) _ [y] rfl (rd_lit wr _ _ 1 rfl rfl (by simp) (by simp; try omega)) (by simp; try omega) (by simp; try omega) ?_; intro v5 w5 o5 b5; have H5 := Lib.hid ((HB.out.alloc hws _).trans b5); have B5 := Lib.hid (B1.out.later H5.out); obtain ⟨⟨t0, t1⟩, ⟨c0, c1, c2⟩⟩ := B5.out.lies; simp only at c0 c1 c2; have z5 := H5.out.size)
          go_roundw
          case rel => exact ⟨j + 1, by omega, by go_num, by rw [HSU.out, if_neg hy]; simpa [List.append_assoc] using o5, H5.out⟩
          case measure => simp [intOf]; omega
      · have HX := Lib.hid (fun v w => out_str w w1.heap.size ([] ++ Cl.esc0 ((bl s).take j) ++ [0, 0]) x (by rw [← hx, List.take_of_length_le (by rw [bl_length]; omega)]; rfl) v w)
        have hlt' : ¬ (j : Int) < (s.size : Int) := by omega
        generalize Cl.esc0 ((bl s).take j) = L at *
        go_wp2_with (at_builtin; refine wpList_app rfl _ _ rfl w1.heap.size _ ([] ++ L) rfl (HO.out.later (up_new _ _)) _ [0, 0] rfl (rd_lit wr _ _ 2 rfl rfl (by simp) (by simp; try omega)) (by simp; try omega) (by simp; try omega) ?_; intro v5 w5 o5 b5; have hcv := HX.out v5 w5 o5)
        go_ret2
        exact ⟨rfl, up B1.out.b ((HB.out.alloc hws _).trans b5)⟩
  · have CN := Lib.hid (fun w => rNumber true 5 w _ rfl)
    unfold tv at CN
    simp at CN
    go_wp2_with (at_builtin; refine wpList_app rfl _ _ rfl w1.heap.size _ ([]) rfl ((Own.nil w1 w1.heap.size).later (up_new _ _)) _ [1] rfl (rd_lit w1 _ _ 1 rfl rfl (by simp) (by simp; try omega)) (by simp; try omega) (by simp; try omega) ?_; intro v3 w3 o3 b3; have H3 := Lib.hid ((up_new w1 _).trans b3); have B3 := Lib.hid (B1.out.later H3.out); obtain ⟨⟨t0, t1⟩, ⟨c0, c1, c2⟩⟩ := B3.out.lies; simp only at c0 c1 c2; have z3 := H3.out.size)
    ((with_reducible refine (CN.out _).mono ?_); rintro e w2 ⟨rfl, b2⟩)
    have HO0 := Lib.hid (o3.later b2)
    have HB0 := Lib.hid (up H3.out b2)
    have B2 := Lib.hid (B1.out.later HB0.out)
    clear b2 t0 t1 c0 c1 c2
    obtain ⟨⟨t0, t1⟩, ⟨c0, c1, c2⟩⟩ := B2.out.lies
    simp only at c0 c1 c2
    go_wp2_with fail
    go_loopw [7, 10] (fun v i wr => ∃ j : Nat, j ≤ s.size ∧ i = .int .i64 j ∧ Own wr w1.heap.size v ([] ++ [1] ++ Cl.esc0 ((bl s).take j)) ∧ Below w1.heap.size w1 wr) (fun _ i _ => s.size - (intOf i).toNat)
    case atStart => exact ⟨0, by omega, rfl, by simpa [Cl.esc0] using HO0.out, HB0.out⟩
    case round =>
      clear t0 t1 c0 c1 c2
      obtain ⟨j, hj, rfl, ho, hb⟩ := hrel
      have hel := (Cl.esc0_len ((bl s).take j)).2
      rw [List.length_take, bl_length] at hel
      have hws := hb.size
      obtain ⟨a, c, rfl, -⟩ := ho.rd
      have HO := Lib.hid ho
      have HB := Lib.hid hb
      have BR := Lib.hid (B1.out.later hb)
      obtain ⟨⟨t0, t1⟩, ⟨c0, c1, c2⟩⟩ := BR.out.lies
      simp only at c0 c1 c2
      clear ho hb
      by_cases hlt : j < s.size
      · have hx := bl_at s j hlt
        have hsu : Cl.esc0 ((bl s).take (j + 1)) = Cl.esc0 ((bl s).take j) ++ (if (bl s).getD j 0 = 0 then [0, 255] else [(bl s).getD j 0]) := by
          rw [take_snoc (bl s) j (by rw [bl_length]; exact hlt), Cl.esc0_append]; simp [Cl.esc0]
        have hxb := Utf.getD_byte (bl_byte s) j
        generalize (bl s).getD j 0 = y at *
        have HSU := Lib.hid hsu
        clear hsu
        generalize Cl.esc0 ((bl s).take j) = L at *
        by_cases hy : y = 0
        · subst hy
          go_wp2_with (first | (at_builtin; refine wpList_app rfl _ _ rfl w1.heap.size _ ([] ++ [1] ++ L) rfl (HO.out.later (up_new _ _)) _ [0] rfl (rd_lit wr _ _ 1 rfl rfl (by simp) (by simp; try omega)) (by simp; try omega) (by simp; try omega) ?_; intro v5 w5 o5 b5; have H5 := Lib.hid ((HB.out.alloc hws _).trans b5); have B5 := Lib.hid (B1.out.later H5.out); obtain ⟨⟨t0, t1⟩, ⟨c0, c1, c2⟩⟩ := B5.out.lies; simp only at c0 c1 c2; have z5 := H5.out.size) | (at_builtin; refine wpList_app rfl _ _ rfl w1.heap.size _ ([] ++ [1] ++ L ++ [0]) rfl (o5.later (up_new _ _)) _ [255] rfl (rd_lit w5 _ _ 1 rfl rfl (by simp) (by simp; try omega)) (by simp; try omega) (by simp; try omega) ?_; intro v6 w6 o6 b6))
          go_roundw
          case rel => exact ⟨j + 1, by omega, by go_num, by rw [HSU.out, if_pos rfl]; simpa [List.append_assoc] using o6, (H5.out.alloc z5 _).trans b6⟩
          case measure => simp [intOf]; omega
        · have d0 : ((y : Int) == 0) = false := by simp; omega
          go_wp2_with (at_builtin; refine wpList_app rfl _ _ rfl w1.heap.size _ ([] ++ [1] ++ L) rfl (HO.out.later (up_new _ _)) _ [y] rfl (rd_lit wr _ _ 1 rfl rfl (by simp) (by simp; try omega)) (by simp; try omega) (by simp; try omega) ?_; intro v5 w5 o5 b5; have H5 := Lib.hid ((HB.out.alloc hws _).trans b5); have B5 := Lib.hid (B1.out.later H5.out); obtain ⟨⟨t0, t1⟩, ⟨c0, c1, c2⟩⟩ := B5.out.lies; simp only at c0 c1 c2; have z5 := H5.out.size)
          go_roundw
          case rel => exact ⟨j + 1, by omega, by go_num, by rw [HSU.out, if_neg hy]; simpa [List.append_assoc] using o5, H5.out⟩
          case measure => simp [intOf]; omega
      · have HX := Lib.hid (fun v w => out_str w w1.heap.size ([] ++ [1] ++ Cl.esc0 ((bl s).take j) ++ [0, 0]) x (by rw [← hx, List.take_of_length_le (by rw [bl_length]; omega)]; rfl) v w)
        have hlt' : ¬ (j : Int) < (s.size : Int) := by omega
        generalize Cl.esc0 ((bl s).take j) = L at *
        go_wp2_with (at_builtin; refine wpList_app rfl _ _ rfl w1.heap.size _ ([] ++ [1] ++ L) rfl (HO.out.later (up_new _ _)) _ [0, 0] rfl (rd_lit wr _ _ 2 rfl rfl (by simp) (by simp; try omega)) (by simp; try omega) (by simp; try omega) ?_; intro v5 w5 o5 b5; have hcv := HX.out v5 w5 o5)
        go_ret2
        exact ⟨rfl, up B1.out.b ((HB.out.alloc hws _).trans b5)⟩
set_option maxHeartbeats 2000000 in
theorem rb2 (u : Bool) (n : Int) (s : ByteArray) (w : World) (hm : s.size ≤ 1000000) (he : Cl.chk u 2 ⟨false, n, s⟩ = 0) (hi : Cl.I64 n) (x : ByteArray) (hx : str (Cl.bts u 2 ⟨false, n, s⟩) = x) : Calls Tryz.prog 40 #[tv u 2, cv ⟨false, n, s⟩] w fun e w' => e = .returned (.tuple #[.string x, .int .i64 0]) ∧ Below w.heap.size w w' := by
  have B0 := Lib.hid (BX.start w u 2 ⟨false, n, s⟩)
  have CC := Lib.hid (fun w => rCheck u 2 ⟨false, n, s⟩ w hm 0 he)
  unfold tv cv at CC
  unfold tv cv
  simp only at CC B0 ⊢
  clear he
  go_enter Tryz.func40, Tryz.ntmps40
  go_wp2_with fail
  ((with_reducible refine (CC.out _).mono ?_); rintro e w1 ⟨rfl, b1⟩)
  have B1 := Lib.hid (B0.out.later b1)
  clear b1
  obtain ⟨⟨t0, t1⟩, ⟨c0, c1, c2⟩⟩ := B1.out.lies
  simp only at c0 c1 c2
  cases u
  · obtain ⟨m, hmm⟩ : ∃ m, Cl.turn n = m := ⟨_, rfl⟩
    have hm1 : m < 18446744073709551616 := by rw [← hmm]; exact Cl.turn_lt hi
    have hm2 : IntKind.u64.wrap (IntKind.u64.wrap n + 9223372036854775808) = (m : Int) := by
      unfold Cl.turn at hmm
      unfold Cl.I64 at hi
      rw [IntKind.wrap_u64, IntKind.wrap_u64]; omega
    have hx2 : str ([] ++ Cl.be m) = x := by rw [← hx, ← hmm]; rfl
    have HR := Lib.hid (fun k hk => shl_rest m k hk hm1)
    have HX := Lib.hid (fun v w => out_str w w1.heap.size ([] ++ Cl.be m) x hx2 v w)
    clear hx hmm hi hx2
    have CN := Lib.hid (fun w => rNumber false 2 w _ rfl)
    unfold tv at CN
    simp at CN
    go_wp2_with fail
    ((with_reducible refine (CN.out _).mono ?_); rintro e w2 ⟨rfl, b2⟩)
    have HO0 := Lib.hid ((Own.nil w1 w1.heap.size).later b2)
    have HB0 := Lib.hid b2
    have B2 := Lib.hid (B1.out.later HB0.out)
    clear b2 t0 t1 c0 c1 c2
    obtain ⟨⟨t0, t1⟩, ⟨c0, c1, c2⟩⟩ := B2.out.lies
    simp only at c0 c1 c2
    go_wp2_with fail
    go_loopw [7, 8, 9] (fun v r i wr => ∃ j : Nat, j ≤ 8 ∧ i = .int .i64 j ∧ r = .int .u64 (m * 256 ^ j % 18446744073709551616 : Nat) ∧ Own wr w1.heap.size v ([] ++ (Cl.be m).take j) ∧ Below w1.heap.size w1 wr) (fun _ _ i _ => 8 - (intOf i).toNat)
    case atStart => exact ⟨0, by omega, rfl, by rw [Nat.pow_zero, Nat.mul_one, Nat.mod_eq_of_lt hm1], by simpa using HO0.out, HB0.out⟩
    case round =>
      clear t0 t1 c0 c1 c2
      obtain ⟨j, hj, rfl, rfl, ho, hb⟩ := hrel
      have hel : ((Cl.be m).take j).length ≤ 8 := by rw [List.length_take, Cl.be_len]; omega
      have hws := hb.size
      obtain ⟨a, c, rfl, -⟩ := ho.rd
      have HO := Lib.hid ho
      have HB := Lib.hid hb
      clear ho hb
      by_cases hlt : j < 8
      · obtain ⟨h1, h2⟩ := HR.out j hlt
        have hbb := Cl.be_byte m ((Cl.be m).getD j 0) (by rw [List.getD_eq_getElem?_getD, List.getElem?_eq_getElem (by rw [Cl.be_len]; omega)]; simp)
        have HSU := Lib.hid (take_snoc (Cl.be m) j (by rw [Cl.be_len]; exact hlt))
        have hqm : m * 256 ^ j % 18446744073709551616 < 18446744073709551616 := by omega
        obtain ⟨q', hq'⟩ : ∃ q', m * 256 ^ (j + 1) % 18446744073709551616 = q' := ⟨_, rfl⟩
        rw [hq'] at h2
        have HQ := Lib.hid hq'
        clear hq'
        generalize m * 256 ^ j % 18446744073709551616 = q at *
        generalize (Cl.be m).getD j 0 = y at *
        generalize (Cl.be m).take j = L at *
        have hq : (q : Int) / 72057594037927936 = (y : Int) := by omega
        have hq0 : 0 ≤ (q : Int) := by omega
        have hq1 : (q : Int) ≤ 18446744073709551615 := by omega
        have hq2 : IntKind.u64.wrap ((q : Int) * 256) = (q' : Int) := by rw [IntKind.wrap_u64]; omega
        have hy2 : IntKind.u8.wrap (y : Int) = (y : Int) := IntWalk.u8_in _ ⟨by omega, by omega⟩
        clear h1 h2
        go_wp2_with (at_builtin; refine wpList_app rfl _ _ rfl w1.heap.size _ ([] ++ L) rfl (HO.out.later (up_new _ _)) _ [y] rfl (rd_lit wr _ _ 1 rfl rfl (by simp) (by simp; try omega)) (by simp; try omega) (by simp; try omega) ?_; intro v5 w5 o5 b5)
        go_roundw
        case rel => exact ⟨j + 1, by omega, by go_num, by rw [HQ.out], by rw [HSU.out]; simpa [List.append_assoc] using o5, (HB.out.alloc hws _).trans b5⟩
        case measure => simp [intOf]; omega
      · have hlt' : ¬ (j : Int) < 8 := by omega
        have HT := Lib.hid (show [] ++ (Cl.be m).take j = [] ++ Cl.be m by rw [List.take_of_length_le (by rw [Cl.be_len]; omega)])
        generalize [] ++ (Cl.be m).take j = L at *
        have hcv := HX.out _ wr (by rw [← HT.out]; exact HO.out)
        go_wp2_with fail
        go_ret2
        exact ⟨rfl, up B1.out.b HB.out⟩
  · obtain ⟨m, hmm⟩ : ∃ m, Cl.turn n = m := ⟨_, rfl⟩
    have hm1 : m < 18446744073709551616 := by rw [← hmm]; exact Cl.turn_lt hi
    have hm2 : IntKind.u64.wrap (IntKind.u64.wrap n + 9223372036854775808) = (m : Int) := by
      unfold Cl.turn at hmm
      unfold Cl.I64 at hi
      rw [IntKind.wrap_u64, IntKind.wrap_u64]; omega
    have hx2 : str ([] ++ [1] ++ Cl.be m) = x := by rw [← hx, ← hmm]; rfl
    have HR := Lib.hid (fun k hk => shl_rest m k hk hm1)
    have HX := Lib.hid (fun v w => out_str w w1.heap.size ([] ++ [1] ++ Cl.be m) x hx2 v w)
    clear hx hmm hi hx2
    have CN := Lib.hid (fun w => rNumber true 2 w _ rfl)
    unfold tv at CN
    simp at CN
    go_wp2_with (at_builtin; refine wpList_app rfl _ _ rfl w1.heap.size _ ([]) rfl ((Own.nil w1 w1.heap.size).later (up_new _ _)) _ [1] rfl (rd_lit w1 _ _ 1 rfl rfl (by simp) (by simp; try omega)) (by simp; try omega) (by simp; try omega) ?_; intro v3 w3 o3 b3; have H3 := Lib.hid ((up_new w1 _).trans b3); have B3 := Lib.hid (B1.out.later H3.out); obtain ⟨⟨t0, t1⟩, ⟨c0, c1, c2⟩⟩ := B3.out.lies; simp only at c0 c1 c2; have z3 := H3.out.size)
    ((with_reducible refine (CN.out _).mono ?_); rintro e w2 ⟨rfl, b2⟩)
    have HO0 := Lib.hid (o3.later b2)
    have HB0 := Lib.hid (up H3.out b2)
    have B2 := Lib.hid (B1.out.later HB0.out)
    clear b2 t0 t1 c0 c1 c2
    obtain ⟨⟨t0, t1⟩, ⟨c0, c1, c2⟩⟩ := B2.out.lies
    simp only at c0 c1 c2
    go_wp2_with fail
    go_loopw [7, 8, 9] (fun v r i wr => ∃ j : Nat, j ≤ 8 ∧ i = .int .i64 j ∧ r = .int .u64 (m * 256 ^ j % 18446744073709551616 : Nat) ∧ Own wr w1.heap.size v ([] ++ [1] ++ (Cl.be m).take j) ∧ Below w1.heap.size w1 wr) (fun _ _ i _ => 8 - (intOf i).toNat)
    case atStart => exact ⟨0, by omega, rfl, by rw [Nat.pow_zero, Nat.mul_one, Nat.mod_eq_of_lt hm1], by simpa using HO0.out, HB0.out⟩
    case round =>
      clear t0 t1 c0 c1 c2
      obtain ⟨j, hj, rfl, rfl, ho, hb⟩ := hrel
      have hel : ((Cl.be m).take j).length ≤ 8 := by rw [List.length_take, Cl.be_len]; omega
      have hws := hb.size
      obtain ⟨a, c, rfl, -⟩ := ho.rd
      have HO := Lib.hid ho
      have HB := Lib.hid hb
      clear ho hb
      by_cases hlt : j < 8
      · obtain ⟨h1, h2⟩ := HR.out j hlt
        have hbb := Cl.be_byte m ((Cl.be m).getD j 0) (by rw [List.getD_eq_getElem?_getD, List.getElem?_eq_getElem (by rw [Cl.be_len]; omega)]; simp)
        have HSU := Lib.hid (take_snoc (Cl.be m) j (by rw [Cl.be_len]; exact hlt))
        have hqm : m * 256 ^ j % 18446744073709551616 < 18446744073709551616 := by omega
        obtain ⟨q', hq'⟩ : ∃ q', m * 256 ^ (j + 1) % 18446744073709551616 = q' := ⟨_, rfl⟩
        rw [hq'] at h2
        have HQ := Lib.hid hq'
        clear hq'
        generalize m * 256 ^ j % 18446744073709551616 = q at *
        generalize (Cl.be m).getD j 0 = y at *
        generalize (Cl.be m).take j = L at *
        have hq : (q : Int) / 72057594037927936 = (y : Int) := by omega
        have hq0 : 0 ≤ (q : Int) := by omega
        have hq1 : (q : Int) ≤ 18446744073709551615 := by omega
        have hq2 : IntKind.u64.wrap ((q : Int) * 256) = (q' : Int) := by rw [IntKind.wrap_u64]; omega
        have hy2 : IntKind.u8.wrap (y : Int) = (y : Int) := IntWalk.u8_in _ ⟨by omega, by omega⟩
        clear h1 h2
        go_wp2_with (at_builtin; refine wpList_app rfl _ _ rfl w1.heap.size _ ([] ++ [1] ++ L) rfl (HO.out.later (up_new _ _)) _ [y] rfl (rd_lit wr _ _ 1 rfl rfl (by simp) (by simp; try omega)) (by simp; try omega) (by simp; try omega) ?_; intro v5 w5 o5 b5)
        go_roundw
        case rel => exact ⟨j + 1, by omega, by go_num, by rw [HQ.out], by rw [HSU.out]; simpa [List.append_assoc] using o5, (HB.out.alloc hws _).trans b5⟩
        case measure => simp [intOf]; omega
      · have hlt' : ¬ (j : Int) < 8 := by omega
        have HT := Lib.hid (show [] ++ [1] ++ (Cl.be m).take j = [] ++ [1] ++ Cl.be m by rw [List.take_of_length_le (by rw [Cl.be_len]; omega)])
        generalize [] ++ [1] ++ (Cl.be m).take j = L at *
        have hcv := HX.out _ wr (by rw [← HT.out]; exact HO.out)
        go_wp2_with fail
        go_ret2
        exact ⟨rfl, up B1.out.b HB.out⟩
set_option maxHeartbeats 2000000 in
theorem rb3 (u : Bool) (n : Int) (s : ByteArray) (w : World) (hm : s.size ≤ 1000000) (he : Cl.chk u 3 ⟨false, n, s⟩ = 0) (hi : Cl.I64 n) (x : ByteArray) (hx : str (Cl.bts u 3 ⟨false, n, s⟩) = x) : Calls Tryz.prog 40 #[tv u 3, cv ⟨false, n, s⟩] w fun e w' => e = .returned (.tuple #[.string x, .int .i64 0]) ∧ Below w.heap.size w w' := by
  have B0 := Lib.hid (BX.start w u 3 ⟨false, n, s⟩)
  have CC := Lib.hid (fun w => rCheck u 3 ⟨false, n, s⟩ w hm 0 he)
  unfold tv cv at CC
  unfold tv cv
  simp only at CC B0 ⊢
  clear he
  go_enter Tryz.func40, Tryz.ntmps40
  go_wp2_with fail
  ((with_reducible refine (CC.out _).mono ?_); rintro e w1 ⟨rfl, b1⟩)
  have B1 := Lib.hid (B0.out.later b1)
  clear b1
  obtain ⟨⟨t0, t1⟩, ⟨c0, c1, c2⟩⟩ := B1.out.lies
  simp only at c0 c1 c2
  cases u
  · obtain ⟨m, hmm⟩ : ∃ m, Cl.turn n = m := ⟨_, rfl⟩
    have hm1 : m < 18446744073709551616 := by rw [← hmm]; exact Cl.turn_lt hi
    have hm2 : IntKind.u64.wrap (IntKind.u64.wrap n + 9223372036854775808) = (m : Int) := by
      unfold Cl.turn at hmm
      unfold Cl.I64 at hi
      rw [IntKind.wrap_u64, IntKind.wrap_u64]; omega
    have hx2 : str ([] ++ Cl.be m) = x := by rw [← hx, ← hmm]; rfl
    have HR := Lib.hid (fun k hk => shl_rest m k hk hm1)
    have HX := Lib.hid (fun v w => out_str w w1.heap.size ([] ++ Cl.be m) x hx2 v w)
    clear hx hmm hi hx2
    have CN := Lib.hid (fun w => rNumber false 3 w _ rfl)
    unfold tv at CN
    simp at CN
    go_wp2_with fail
    ((with_reducible refine (CN.out _).mono ?_); rintro e w2 ⟨rfl, b2⟩)
    have HO0 := Lib.hid ((Own.nil w1 w1.heap.size).later b2)
    have HB0 := Lib.hid b2
    have B2 := Lib.hid (B1.out.later HB0.out)
    clear b2 t0 t1 c0 c1 c2
    obtain ⟨⟨t0, t1⟩, ⟨c0, c1, c2⟩⟩ := B2.out.lies
    simp only at c0 c1 c2
    go_wp2_with fail
    go_loopw [7, 8, 9] (fun v r i wr => ∃ j : Nat, j ≤ 8 ∧ i = .int .i64 j ∧ r = .int .u64 (m * 256 ^ j % 18446744073709551616 : Nat) ∧ Own wr w1.heap.size v ([] ++ (Cl.be m).take j) ∧ Below w1.heap.size w1 wr) (fun _ _ i _ => 8 - (intOf i).toNat)
    case atStart => exact ⟨0, by omega, rfl, by rw [Nat.pow_zero, Nat.mul_one, Nat.mod_eq_of_lt hm1], by simpa using HO0.out, HB0.out⟩
    case round =>
      clear t0 t1 c0 c1 c2
      obtain ⟨j, hj, rfl, rfl, ho, hb⟩ := hrel
      have hel : ((Cl.be m).take j).length ≤ 8 := by rw [List.length_take, Cl.be_len]; omega
      have hws := hb.size
      obtain ⟨a, c, rfl, -⟩ := ho.rd
      have HO := Lib.hid ho
      have HB := Lib.hid hb
      clear ho hb
      by_cases hlt : j < 8
      · obtain ⟨h1, h2⟩ := HR.out j hlt
        have hbb := Cl.be_byte m ((Cl.be m).getD j 0) (by rw [List.getD_eq_getElem?_getD, List.getElem?_eq_getElem (by rw [Cl.be_len]; omega)]; simp)
        have HSU := Lib.hid (take_snoc (Cl.be m) j (by rw [Cl.be_len]; exact hlt))
        have hqm : m * 256 ^ j % 18446744073709551616 < 18446744073709551616 := by omega
        obtain ⟨q', hq'⟩ : ∃ q', m * 256 ^ (j + 1) % 18446744073709551616 = q' := ⟨_, rfl⟩
        rw [hq'] at h2
        have HQ := Lib.hid hq'
        clear hq'
        generalize m * 256 ^ j % 18446744073709551616 = q at *
        generalize (Cl.be m).getD j 0 = y at *
        generalize (Cl.be m).take j = L at *
        have hq : (q : Int) / 72057594037927936 = (y : Int) := by omega
        have hq0 : 0 ≤ (q : Int) := by omega
        have hq1 : (q : Int) ≤ 18446744073709551615 := by omega
        have hq2 : IntKind.u64.wrap ((q : Int) * 256) = (q' : Int) := by rw [IntKind.wrap_u64]; omega
        have hy2 : IntKind.u8.wrap (y : Int) = (y : Int) := IntWalk.u8_in _ ⟨by omega, by omega⟩
        clear h1 h2
        go_wp2_with (at_builtin; refine wpList_app rfl _ _ rfl w1.heap.size _ ([] ++ L) rfl (HO.out.later (up_new _ _)) _ [y] rfl (rd_lit wr _ _ 1 rfl rfl (by simp) (by simp; try omega)) (by simp; try omega) (by simp; try omega) ?_; intro v5 w5 o5 b5)
        go_roundw
        case rel => exact ⟨j + 1, by omega, by go_num, by rw [HQ.out], by rw [HSU.out]; simpa [List.append_assoc] using o5, (HB.out.alloc hws _).trans b5⟩
        case measure => simp [intOf]; omega
      · have hlt' : ¬ (j : Int) < 8 := by omega
        have HT := Lib.hid (show [] ++ (Cl.be m).take j = [] ++ Cl.be m by rw [List.take_of_length_le (by rw [Cl.be_len]; omega)])
        generalize [] ++ (Cl.be m).take j = L at *
        have hcv := HX.out _ wr (by rw [← HT.out]; exact HO.out)
        go_wp2_with fail
        go_ret2
        exact ⟨rfl, up B1.out.b HB.out⟩
  · obtain ⟨m, hmm⟩ : ∃ m, Cl.turn n = m := ⟨_, rfl⟩
    have hm1 : m < 18446744073709551616 := by rw [← hmm]; exact Cl.turn_lt hi
    have hm2 : IntKind.u64.wrap (IntKind.u64.wrap n + 9223372036854775808) = (m : Int) := by
      unfold Cl.turn at hmm
      unfold Cl.I64 at hi
      rw [IntKind.wrap_u64, IntKind.wrap_u64]; omega
    have hx2 : str ([] ++ [1] ++ Cl.be m) = x := by rw [← hx, ← hmm]; rfl
    have HR := Lib.hid (fun k hk => shl_rest m k hk hm1)
    have HX := Lib.hid (fun v w => out_str w w1.heap.size ([] ++ [1] ++ Cl.be m) x hx2 v w)
    clear hx hmm hi hx2
    have CN := Lib.hid (fun w => rNumber true 3 w _ rfl)
    unfold tv at CN
    simp at CN
    go_wp2_with (at_builtin; refine wpList_app rfl _ _ rfl w1.heap.size _ ([]) rfl ((Own.nil w1 w1.heap.size).later (up_new _ _)) _ [1] rfl (rd_lit w1 _ _ 1 rfl rfl (by simp) (by simp; try omega)) (by simp; try omega) (by simp; try omega) ?_; intro v3 w3 o3 b3; have H3 := Lib.hid ((up_new w1 _).trans b3); have B3 := Lib.hid (B1.out.later H3.out); obtain ⟨⟨t0, t1⟩, ⟨c0, c1, c2⟩⟩ := B3.out.lies; simp only at c0 c1 c2; have z3 := H3.out.size)
    ((with_reducible refine (CN.out _).mono ?_); rintro e w2 ⟨rfl, b2⟩)
    have HO0 := Lib.hid (o3.later b2)
    have HB0 := Lib.hid (up H3.out b2)
    have B2 := Lib.hid (B1.out.later HB0.out)
    clear b2 t0 t1 c0 c1 c2
    obtain ⟨⟨t0, t1⟩, ⟨c0, c1, c2⟩⟩ := B2.out.lies
    simp only at c0 c1 c2
    go_wp2_with fail
    go_loopw [7, 8, 9] (fun v r i wr => ∃ j : Nat, j ≤ 8 ∧ i = .int .i64 j ∧ r = .int .u64 (m * 256 ^ j % 18446744073709551616 : Nat) ∧ Own wr w1.heap.size v ([] ++ [1] ++ (Cl.be m).take j) ∧ Below w1.heap.size w1 wr) (fun _ _ i _ => 8 - (intOf i).toNat)
    case atStart => exact ⟨0, by omega, rfl, by rw [Nat.pow_zero, Nat.mul_one, Nat.mod_eq_of_lt hm1], by simpa using HO0.out, HB0.out⟩
    case round =>
      clear t0 t1 c0 c1 c2
      obtain ⟨j, hj, rfl, rfl, ho, hb⟩ := hrel
      have hel : ((Cl.be m).take j).length ≤ 8 := by rw [List.length_take, Cl.be_len]; omega
      have hws := hb.size
      obtain ⟨a, c, rfl, -⟩ := ho.rd
      have HO := Lib.hid ho
      have HB := Lib.hid hb
      clear ho hb
      by_cases hlt : j < 8
      · obtain ⟨h1, h2⟩ := HR.out j hlt
        have hbb := Cl.be_byte m ((Cl.be m).getD j 0) (by rw [List.getD_eq_getElem?_getD, List.getElem?_eq_getElem (by rw [Cl.be_len]; omega)]; simp)
        have HSU := Lib.hid (take_snoc (Cl.be m) j (by rw [Cl.be_len]; exact hlt))
        have hqm : m * 256 ^ j % 18446744073709551616 < 18446744073709551616 := by omega
        obtain ⟨q', hq'⟩ : ∃ q', m * 256 ^ (j + 1) % 18446744073709551616 = q' := ⟨_, rfl⟩
        rw [hq'] at h2
        have HQ := Lib.hid hq'
        clear hq'
        generalize m * 256 ^ j % 18446744073709551616 = q at *
        generalize (Cl.be m).getD j 0 = y at *
        generalize (Cl.be m).take j = L at *
        have hq : (q : Int) / 72057594037927936 = (y : Int) := by omega
        have hq0 : 0 ≤ (q : Int) := by omega
        have hq1 : (q : Int) ≤ 18446744073709551615 := by omega
        have hq2 : IntKind.u64.wrap ((q : Int) * 256) = (q' : Int) := by rw [IntKind.wrap_u64]; omega
        have hy2 : IntKind.u8.wrap (y : Int) = (y : Int) := IntWalk.u8_in _ ⟨by omega, by omega⟩
        clear h1 h2
        go_wp2_with (at_builtin; refine wpList_app rfl _ _ rfl w1.heap.size _ ([] ++ [1] ++ L) rfl (HO.out.later (up_new _ _)) _ [y] rfl (rd_lit wr _ _ 1 rfl rfl (by simp) (by simp; try omega)) (by simp; try omega) (by simp; try omega) ?_; intro v5 w5 o5 b5)
        go_roundw
        case rel => exact ⟨j + 1, by omega, by go_num, by rw [HQ.out], by rw [HSU.out]; simpa [List.append_assoc] using o5, (HB.out.alloc hws _).trans b5⟩
        case measure => simp [intOf]; omega
      · have hlt' : ¬ (j : Int) < 8 := by omega
        have HT := Lib.hid (show [] ++ [1] ++ (Cl.be m).take j = [] ++ [1] ++ Cl.be m by rw [List.take_of_length_le (by rw [Cl.be_len]; omega)])
        generalize [] ++ [1] ++ (Cl.be m).take j = L at *
        have hcv := HX.out _ wr (by rw [← HT.out]; exact HO.out)
        go_wp2_with fail
        go_ret2
        exact ⟨rfl, up B1.out.b HB.out⟩
theorem rbNull (u : Bool) (k : Int) (n : Int) (s : ByteArray) (w : World) (hm : s.size ≤ 1000000) (he : Cl.chk u k ⟨true, n, s⟩ = 0) (x : ByteArray) (hx : str (Cl.bts u k ⟨true, n, s⟩) = x) : Calls Tryz.prog 40 #[tv u k, cv ⟨true, n, s⟩] w fun e w' => e = .returned (.tuple #[.string x, .int .i64 0]) ∧ Below w.heap.size w w' := by
  have hx2 : (⟨#[0]⟩ : ByteArray) = x := by rw [← hx]; rfl
  subst hx2
  clear hx
  have B0 := Lib.hid (BX.start w u k ⟨true, n, s⟩)
  have CC := Lib.hid (fun w => rCheck u k ⟨true, n, s⟩ w hm 0 he)
  unfold tv cv at CC
  unfold tv cv
  simp only at CC B0 ⊢
  clear he
  go_enter Tryz.func40, Tryz.ntmps40
  go_wp2_with fail
  ((with_reducible refine (CC.out _).mono ?_); rintro e w1 ⟨rfl, b1⟩)
  have B1 := Lib.hid (B0.out.later b1)
  clear b1
  obtain ⟨⟨t0, t1⟩, ⟨c0, c1, c2⟩⟩ := B1.out.lies
  simp only at c0 c1 c2
  go_wp2_with fail
  go_ret2
  exact ⟨rfl, B1.out.b⟩
theorem rbErr (u : Bool) (k : Int) (c : Cl.C) (w : World) (hm : c.s.size ≤ 1000000) (e0 : Nat) (he : Cl.chk u k c = e0) (h0 : e0 ≠ 0) : Calls Tryz.prog 40 #[tv u k, cv c] w fun e w' => e = .returned (.tuple #[.string ⟨#[]⟩, .int .i64 (e0 : Nat)]) ∧ Below w.heap.size w w' := by
  have B0 := Lib.hid (BX.start w u k c)
  have CC := Lib.hid (fun w => rCheck u k c w hm e0 he)
  have h1 : ((e0 : Int) != 0) = true := by simp; omega
  obtain ⟨c0, n, s⟩ := c
  unfold tv cv at CC ⊢
  simp only at CC B0 ⊢
  clear he h0 hm
  go_enter Tryz.func40, Tryz.ntmps40
  go_wp2_with fail
  ((with_reducible refine (CC.out _).mono ?_); rintro e w1 ⟨rfl, b1⟩)
  have B1 := Lib.hid (B0.out.later b1)
  clear b1
  go_wp2_with fail
  go_ret2
  exact ⟨rfl, B1.out.b⟩
theorem rBits (u : Bool) (k : Int) (c : Cl.C) (w : World) (hi : Cl.I64 c.n) (hm : c.s.size ≤ 1000000) (e0 : Nat) (he : Cl.chk u k c = e0) (x : ByteArray) (hx : (if e0 = 0 then str (Cl.bts u k c) else ⟨#[]⟩) = x) : Calls Tryz.prog 40 #[tv u k, cv c] w fun e w' => e = .returned (.tuple #[.string x, .int .i64 (e0 : Nat)]) ∧ Below w.heap.size w w' := by
  by_cases h0 : e0 = 0
  · subst h0
    rw [if_pos rfl] at hx
    obtain ⟨hk, hc⟩ := Cl.chk_ok he
    obtain ⟨c0, n, s⟩ := c
    cases c0
    · have hK : Cl.isK k ⟨false, n, s⟩ = true := by
        rcases Cl.of_parts hc with h | h
        · exact absurd h.1 (by simp)
        · exact h.2
      obtain ⟨h1, h2⟩ := Cl.may_le hk
      have : k = 1 ∨ k = 2 ∨ k = 3 ∨ k = 4 ∨ k = 5 := by omega
      rcases this with rfl | rfl | rfl | rfl | rfl
      · rcases ((isK_at hK).2.1 rfl).2 with hn | hn
        · simp only at hn
          subst hn
          exact rb1_0 u s w hm he x hx
        · simp only at hn
          subst hn
          exact rb1_1 u s w hm he x hx
      · exact rb2 u n s w hm he hi x hx
      · exact rb3 u n s w hm he hi x hx
      · exact rb4 u n s w hm he x hx
      · exact rb5 u n s w hm he x hx
    · exact rbNull u k n s w hm he x hx
  · rw [if_neg h0] at hx
    subst hx
    exact rbErr u k c w hm e0 he h0
end Go.Proofs.YtffdgcdmbccodaaGreatDoor
