/- The reference: Check, Deep, Kids. -/
import Derived.Test.YtgmdjofnkbaflaaGreatDoorRdeep
namespace Go.Proofs.YtgmdjofnkbaflaaGreatDoor
open Go.RowKit
set_option linter.unusedVariables false
set_option maxRecDepth 100000

theorem chk_60 {l : List Nd} (hl : l.length ≤ 4000) (h : ∀ F, ¬ Rt l F) : chk l = 60 := (chk_eq (.inr (.inl ⟨hl, h, rfl, rfl⟩))).1
set_option maxHeartbeats 8000000 in
theorem rcheck (v : Value) (l : List Nd) (w : World) (h : RdN w w.heap.size v l) (hok : ∀ x ∈ l, Nok x) (e : Int) (he : chk l = e) :
    Calls Tryz.prog 108 #[v] w fun r w' => r = .returned (.int .i64 e) ∧ Below w.heap.size w w' := by
  have hll := Gn.Rd.len' h
  by_cases hl : 4000 < l.length
  · obtain rfl : 5 = e := (chk_eq (.inl ⟨hl, rfl, rfl⟩)).1.symm.trans he
    obtain ⟨ad, c, rfl, _⟩ := Gn.Rd.form h
    have hl' : (4000 : Int) < l.length := by omega
    clear he h
    go_enter Tryz.func108, Tryz.ntmps108
    go_wp2_with fail
    go_ret
    exact ⟨rfl, Below.refl _ _⟩
  · have hl' : ¬ (4000 : Int) < l.length := by omega
    by_cases h0 : l.length = 0
    · obtain rfl : l = [] := List.eq_nil_of_length_eq_zero h0
      obtain rfl : 60 = e := (chk_60 (by omega) (fun F => rt_nil F)).symm.trans he
      obtain ⟨ad, c, rfl, _⟩ := Gn.Rd.form h
      clear he h
      go_enter Tryz.func108, Tryz.ntmps108
      go_wp2_with fail
      go_ret
      exact ⟨rfl, Below.refl _ _⟩
    · obtain ⟨x, hx⟩ : ∃ x, l[0]? = some x := ⟨_, List.getElem?_eq_getElem (by omega)⟩
      have hR := rt_iff l x hx
      have hxs := (hok x (List.mem_of_getElem? hx)).2.2.2.2
      have hl1 : (0 : Int) < l.length := by omega
      have hl2 : 0 < l.length := by omega
      have hb0 : ((l.length : Int) == 0) = false := by rw [beq_eq_false_iff_ne]; omega
      have HR := Lib.hid h
      have HX := Lib.hid hx
      have CV := fun b hb => rval_all w v l h hok (by omega) l.length 0 l.length l.length w b (by omega) (by omega) (by omega) (by simp) (Below.refl _ _) hb
      have CD := fun F (hF : Rt l F) (w2 : World) (hw : Below w.heap.size w w2) => rdeep w v l h (by omega) (Tp.sz F) F 0 0 l.length w2 (Nat.le_refl _) (by simp) (by rw [← hF.2.2]; simp [Tp.sz]) (by rw [← hF.2.2]; simp [Tp.sz]) (by rw [← hF.2.2]; exact Tp.at_flat F) hw
      simp only [Int.natCast_zero] at CV
      obtain ⟨ad, c, rfl, _⟩ := Gn.Rd.form h
      obtain ⟨bl0, off, rfl, _, c1, _, _, c4⟩ := rdN_cells h (Below.refl _ _) hx
      rw [Nat.zero_mul, Nat.add_zero] at c1 c4
      by_cases hy : x.key.size = 0
      · have hq : x.key.toList.isEmpty = true := by rw [bl_empty, bl_nil.2 hy]; rfl
        by_cases hs : x.size = (l.length : Nat)
        · have hs2 : ((x.size : Int) != (l.length : Nat)) = false := by simpa using hs
          by_cases hv : Tp.Vp l 0 l.length
          · have CT := Lib.hid (CV true ⟨fun _ => hv, fun _ => rfl⟩)
            obtain ⟨F, hF⟩ := hv
            have hRt := (hR F).2 ⟨hy, hs, hF⟩
            have CE := Lib.hid (CD F hRt)
            have hcase : (64 < Tp.dep F ∧ e = 72) ∨ (Tp.dep F ≤ 64 ∧ e = 0) := by
              by_cases h64 : 64 < Tp.dep F
              · exact .inl ⟨h64, he.symm.trans (chk_eq (.inr (.inr (.inl ⟨by omega, ⟨F, hRt, h64⟩, rfl, rfl⟩)))).1⟩
              · exact .inr ⟨by omega, he.symm.trans (chk_eq (.inr (.inr (.inr ⟨by omega, rfl, F, hRt, by omega, rfl⟩)))).1⟩
            clear CV CD hR hF hRt he h hok hx hxs hs hy
            rcases hcase with ⟨h64, rfl⟩ | ⟨h64, rfl⟩
            · have h64' : (64 : Int) < Tp.dep F := by omega
              go_enter Tryz.func108, Tryz.ntmps108
              go_wp2_with fail
              ((with_reducible refine (CT.out).mono ?_); rintro r w2 ⟨rfl, b2⟩)
              have HB := Lib.hid b2
              clear b2
              go_wp2_with fail
              ((with_reducible refine (CE.out _ HB.out).mono ?_); rintro r w3 ⟨rfl, b3⟩)
              have HB3 := Lib.hid (up HB.out b3)
              clear b3
              go_wp2_with fail
              go_ret
              exact ⟨rfl, HB3.out⟩
            · have h64' : ¬ (64 : Int) < Tp.dep F := by omega
              go_enter Tryz.func108, Tryz.ntmps108
              go_wp2_with fail
              ((with_reducible refine (CT.out).mono ?_); rintro r w2 ⟨rfl, b2⟩)
              have HB := Lib.hid b2
              clear b2
              go_wp2_with fail
              ((with_reducible refine (CE.out _ HB.out).mono ?_); rintro r w3 ⟨rfl, b3⟩)
              have HB3 := Lib.hid (up HB.out b3)
              clear b3
              go_wp2_with fail
              go_ret
              exact ⟨rfl, HB3.out⟩
          · have CT := Lib.hid (CV false ⟨fun h => Bool.noConfusion h, fun h => absurd h hv⟩)
            obtain rfl : 60 = e := (chk_60 (by omega) (fun F hF => hv ⟨F, ((hR F).1 hF).2.2⟩)).symm.trans he
            clear CV CD hR he h hok hx hxs hs hy hv
            go_enter Tryz.func108, Tryz.ntmps108
            go_wp2_with fail
            ((with_reducible refine (CT.out).mono ?_); rintro r w2 ⟨rfl, b2⟩)
            have HB := Lib.hid b2
            clear b2
            go_wp2_with fail
            go_ret
            exact ⟨rfl, HB.out⟩
        · have hs2 : ((x.size : Int) != (l.length : Nat)) = true := by simpa using hs
          obtain rfl : 60 = e := (chk_60 (by omega) (fun F hF => hs ((hR F).1 hF).2.1)).symm.trans he
          clear CV CD hR he h hok hx hxs hs hy
          go_enter Tryz.func108, Tryz.ntmps108
          go_wp2_with fail
          go_ret
          exact ⟨rfl, Below.refl _ _⟩
      · have hq : x.key.toList.isEmpty = false := by rw [bl_empty]; exact decide_eq_false fun e => hy (bl_nil.1 e)
        obtain rfl : 60 = e := (chk_60 (by omega) (fun F hF => hy ((hR F).1 hF).1)).symm.trans he
        clear CV CD hR he h hok hx hxs hy
        go_enter Tryz.func108, Tryz.ntmps108
        go_wp2_with fail
        go_ret
        exact ⟨rfl, Below.refl _ _⟩
end Go.Proofs.YtgmdjofnkbaflaaGreatDoor
