/- The reference's Get. -/
import Derived.Test.YteklcfimafplbaaDoorGet2
namespace Go.Proofs.YteklcfimafplbaaDoor
open Go.RowKit
set_option linter.unusedVariables false
set_option maxRecDepth 100000

set_option maxHeartbeats 8000000 in
theorem rget (v : Value) (l : List Nd) (key : ByteArray) (w : World) (h : RdN w w.heap.size v l) (hok : ∀ x ∈ l, Nok x) (r : List Nd) (b : Bool) (hr : GetIs l key r b) :
    Calls Tryd.prog 57 #[v, .string key] w fun e w' => GPost w r b e w' := by
  by_cases h0 : chk l = 0
  · obtain ⟨F, hF, _⟩ := may_of h0
    obtain ⟨⟨k, y, n, s, c, rfl, hy⟩, _⟩ := hF.2.1
    have hA : Tp.At l 0 (.node k y n s c .nil) := by rw [← hF.2.1.2.2]; exact Tp.at_flat _
    have hx := (Tp.at_node.1 hA).1
    have HX := Lib.hid hx
    have hlt : 0 < l.length := (List.getElem?_eq_some_iff.1 hx).1
    have hlt2 : (0 : Int) < l.length := by omega
    have HR := Lib.hid h
    have CK := Lib.hid (rkids v l w h hok (plcs 1 c) (.inl ⟨k, y, n, s, c, hF, rfl⟩))
    have HAc := Lib.hid (Tp.at_node.1 hA).2.1
    have CC := Lib.hid (fun (w2 : World) (hw : Below w.heap.size w w2) (p : Nat) k n y s c hA (hi : (p : Int) ≤ 9223372036854775807) => rpart v l w2 (Gn.Rd.later h hw) hok p ⟨by omega, hi⟩ (cutF k n s c) (.inl ⟨p, k, y, n, s, c, rfl, h0, hF.1, hA, rfl⟩))
    have hlen := plcs_len 1 c
    have hszc := Tp.At.len hA
    rw [Tp.sz_node, Tp.sz_nil] at hszc
    have HRE : Hid ((k = 7 ∧ ∃ D k2 n2 s2 c2 R, c = Tp.app D (.node k2 key n2 s2 c2 R) ∧ key ∉ Tp.keys D ∧ r = cutF k2 n2 s2 c2 ∧ b = true) ∨ (r = [] ∧ b = false ∧ (k ≠ 7 ∨ key ∉ Tp.keys c))) := Lib.hid (by
      rcases hr with ⟨y', n', s', c', D, k2, n2, s2, c2, R, hM, h1, h2, h3, h4⟩ | ⟨h1, h2, h3 | ⟨k', y', n', s', c', hM, h3⟩⟩
      · have := rt_one hM.2.1 hF.2.1
        injection this with e1 e2 e3 e4 e5
        subst e5
        exact .inl ⟨e1.symm, D, k2, n2, s2, c2, R, h1, h2, h3, h4⟩
      · exact absurd h0 h3
      · have := rt_one hM.2.1 hF.2.1
        injection this with e1 e2 e3 e4 e5
        subst e1 e5
        exact .inr ⟨h1, h2, h3⟩)
    have hl := hF.1
    obtain ⟨ad, cp, rfl, _⟩ := Gn.Rd.form h
    have HPL := Lib.hid (plcs_keys 1 c)
    have hpl4 : ((plcs 1 c).length : Int) ≤ 4000 := by omega
    obtain ⟨b0, off, rfl, _, _, _, _, _⟩ := rdN_cells HR.out (Below.refl _ _) HX.out
    clear h hok hr hF hA hx h0 hlen
    go_enter Tryd.func57, Tryd.ntmps57
    go_wp2_with fail
    ((with_reducible refine (CK.out).mono ?_); rintro e w3 ⟨pv, rfl, ho, b3⟩)
    have HB3 := Lib.hid b3
    have HO := Lib.hid (Gn.Own.rd inL ho)
    obtain ⟨pad, pcp, rfl, _⟩ := Gn.Rd.form HO.out
    clear b3 ho
    go_wp2_with fail
    go_loopw [7] (fun i wr => ∃ (j : Nat) (D R : Fo), i = .int .i64 (j : Nat) ∧ j ≤ (plcs 1 c).length ∧ Hid (c = Tp.app D R ∧ j = (Tp.keys D).length ∧ (k = 7 → key ∉ Tp.keys D)) ∧ Hid (Below w3.heap.size w3 wr)) (fun i _ => (plcs 1 c).length - (intOf i).toNat)
    case atStart => exact ⟨0, .nil, c, by rfl, by omega, Lib.hid ⟨rfl, rfl, by simp [Tp.keys]⟩, Lib.hid (Below.refl _ _)⟩
    case round =>
      obtain ⟨j, D, R, rfl, hj, HD, HU⟩ := hrel
      have HWr := Lib.hid (up HB3.out HU.out)
      by_cases hjl : j < (plcs 1 c).length
      · have hjl' : (j : Int) < (plcs 1 c).length := by omega
        obtain ⟨kk, ky, kn, ks, kc, kr, hRe⟩ := keys_split HD.out.1 j HD.out.2.1 (by rw [← HPL.out]; exact hjl)
        have hpj : (plcs 1 c)[j]? = some ((1 + Tp.sz D : Nat) : Int) := by rw [HD.out.1, hRe, HD.out.2.1]; exact plcs_at 1 D kk ky kn ks kc kr
        have hAD := (Tp.at_app.1 (show Tp.At l (0 + 1) (Tp.app D R) by rw [← HD.out.1]; exact HAc.out)).2
        rw [hRe, show 0 + 1 + Tp.sz D = 1 + Tp.sz D by omega] at hAD
        obtain ⟨q, hq⟩ : ∃ q, 1 + Tp.sz D = q := ⟨_, rfl⟩
        rw [hq] at hpj hAD
        have hqx := (Tp.at_node.1 hAD).1
        have hql : (q : Int) < l.length := by have := (List.getElem?_eq_some_iff.1 hqx).1; omega
        obtain ⟨pb, po, e, pc⟩ := rdI_cell HO.out HU.out hpj
        subst e
        obtain ⟨b', off', e, x0, _, _, _, _⟩ := rdN_cells HR.out HWr.out HX.out
        obtain ⟨rfl, rfl⟩ : b0 = b' ∧ off = off' := by injection e with e; injection e with e1 e2; exact ⟨e1, e2⟩
        rw [Nat.zero_mul, Nat.add_zero] at x0
        obtain ⟨b', off', e2, _, q1, _, _, _⟩ := rdN_cells HR.out HWr.out hqx
        obtain ⟨rfl, rfl⟩ : b0 = b' ∧ off = off' := by injection e2 with e; injection e with e1 e2; exact ⟨e1, e2⟩
        have HAQ := Lib.hid (show Tp.At l q (.node kk ky kn ks kc .nil) from Tp.at_node.2 ⟨hqx, (Tp.at_node.1 hAD).2.1, Tp.At.nil _ _⟩)
        have HRe := Lib.hid hRe
        clear e e2 hpj hAD hqx hRe hq
        by_cases h7 : k = 7
        · have h7' : ((k : Int) == 7) = true := by simpa using h7
          by_cases hyk : ky = key
          · have hq1 : (ky.toList == key.toList) = true := by rw [bl_eq, hyk]; simp
            obtain ⟨hr1, rfl⟩ : r = cutF kk kn ks kc ∧ b = true := by
              rcases HRE.out with ⟨_, D', k2, n2, s2, c2, R', h1, h2, h3, h4⟩ | ⟨_, _, h3⟩
              · have e := HD.out.1
                rw [HRe.out] at e
                have hsame := first_same (h1.symm.trans e) h2 (HD.out.2.2 h7) hyk.symm
                exact ⟨by rw [h3, hsame.1, hsame.2.1, hsame.2.2.1, hsame.2.2.2], h4⟩
              · exfalso
                apply h3.resolve_left (fun h => h h7)
                rw [HD.out.1, HRe.out, Tp.keys_app, Tp.keys, hyk]
                exact List.mem_append_right _ (List.mem_cons_self ..)
            have CT := Lib.hid (CC.out wr HWr.out q kk kn ky ks kc HAQ.out (by omega))
            rw [← hr1] at CT
            have HKK := Lib.hid h7
            clear hyk hr1 h7
            go_wp2_with fail
            ((with_reducible refine (CT.out).mono ?_); rintro e w5 ⟨v5, rfl, ho, hb⟩)
            have HB5 := Lib.hid (up HWr.out hb)
            have HO5 := Lib.hid (Gn.Own.lower ho HWr.out.size)
            clear ho hb
            go_wp2_with fail
            go_ret2
            exact ⟨_, rfl, HO5.out, HB5.out⟩
          · have hq1 : (ky.toList == key.toList) = false := by rw [bl_eq]; exact decide_eq_false fun e => hyk (bl_inj e)
            have HD2 : Hid (c = Tp.app (Tp.app D (.node kk ky kn ks kc .nil)) kr ∧ j + 1 = (Tp.keys (Tp.app D (.node kk ky kn ks kc .nil))).length ∧ (k = 7 → key ∉ Tp.keys (Tp.app D (.node kk ky kn ks kc .nil)))) := Lib.hid ⟨by rw [HD.out.1, HRe.out, app_step], by rw [Tp.keys_app, List.length_append, ← HD.out.2.1]; rfl, fun h7 => by
              rw [Tp.keys_app]
              simp only [Tp.keys, List.mem_append, List.mem_singleton]
              exact fun hm => hm.elim (HD.out.2.2 h7) (fun e => hyk e.symm)⟩
            clear hyk h7
            go_wp2_with fail
            go_roundw
            case rel => exact ⟨j + 1, _, kr, by go_num, by omega, HD2, HU⟩
            case measure => simp [intOf]; omega
        · have h7' : ((k : Int) == 7) = false := by simpa using h7
          have HD2 : Hid (c = Tp.app (Tp.app D (.node kk ky kn ks kc .nil)) kr ∧ j + 1 = (Tp.keys (Tp.app D (.node kk ky kn ks kc .nil))).length ∧ (k = 7 → key ∉ Tp.keys (Tp.app D (.node kk ky kn ks kc .nil)))) := Lib.hid ⟨by rw [HD.out.1, HRe.out, app_step], by rw [Tp.keys_app, List.length_append, ← HD.out.2.1]; rfl, fun h => absurd h h7⟩
          clear h7
          go_wp2_with fail
          go_roundw
          case rel => exact ⟨j + 1, _, kr, by go_num, by omega, HD2, HU⟩
          case measure => simp [intOf]; omega
      · have hjl' : ¬ (j : Int) < (plcs 1 c).length := by omega
        obtain ⟨rfl, rfl⟩ : r = [] ∧ b = false := by
          rcases HRE.out with ⟨h7, D', k2, n2, s2, c2, R', h1, h2, h3, h4⟩ | ⟨h1, h2, h3⟩
          · exfalso
            have e := keys_done HD.out.1 (by rw [← HD.out.2.1, ← HPL.out]; exact hjl)
            apply HD.out.2.2 h7
            rw [← e, h1, Tp.keys_app, Tp.keys]
            exact List.mem_append_right _ (List.mem_cons_self ..)
          · exact ⟨h1, h2⟩
        go_wp2_with fail
        go_ret2
        exact ⟨_, rfl, Gn.Own.nil _ _, HWr.out⟩
  · obtain ⟨rfl, rfl⟩ : r = [] ∧ b = false := by
      rcases hr with ⟨y', n', s', c', D, k2, n2, s2, c2, R, hM, _⟩ | ⟨h1, h2, _⟩
      · exact absurd (may_chk hM).1 h0
      · exact ⟨h1, h2⟩
    have CK := Lib.hid (rkids v l w h hok [] (.inr ⟨h0, rfl⟩))
    clear h hok hr h0
    go_enter Tryd.func57, Tryd.ntmps57
    go_wp2_with fail
    ((with_reducible refine (CK.out).mono ?_); rintro e w3 ⟨pv, rfl, ho, b3⟩)
    have HB3 := Lib.hid b3
    obtain ⟨pad, pcp, rfl, _⟩ := Gn.Rd.form (Gn.Own.rd inL ho)
    clear b3 ho
    go_wp2_with fail
    go_loopw [7] (fun i wr => i = .int .i64 0 ∧ wr = w3) (fun i _ => 0)
    case atStart => exact ⟨rfl, rfl⟩
    case round =>
      obtain ⟨rfl, rfl⟩ := hrel
      go_wp2_with fail
      go_ret2
      exact ⟨_, rfl, Gn.Own.nil _ _, HB3.out⟩
end Go.Proofs.YteklcfimafplbaaDoor
