/- Get: what stands beside a key. -/
import Derived.Test.YteklcfimafplbaaDoorGet
namespace Go.Proofs.YteklcfimafplbaaDoor
open Go.RowKit
set_option linter.unusedVariables false
set_option maxRecDepth 100000

theorem plcs_keys : ∀ (o : Nat) (F : Fo), (plcs o F).length = (Tp.keys F).length
  | _, .nil => rfl
  | o, .node k y n s c r => by rw [plcs, Tp.keys, List.length_cons, List.length_cons, plcs_keys]
theorem plcs_at (o : Nat) (D : Fo) (k : Int) (y : ByteArray) (n : Int) (s : ByteArray) (c R : Fo) : (plcs o (Tp.app D (.node k y n s c R)))[(Tp.keys D).length]? = some ((o + Tp.sz D : Nat) : Int) := by
  rw [plcs_app, List.getElem?_append_right (by rw [plcs_keys o]; exact Nat.le_refl _), plcs_keys o, Nat.sub_self]
  rfl
theorem keys_split {C D R : Fo} (h : C = Tp.app D R) (j : Nat) (hj : j = (Tp.keys D).length) (hlt : j < (Tp.keys C).length) : ∃ k y n s c r, R = .node k y n s c r := by
  subst h; subst hj
  rw [Tp.keys_app, List.length_append] at hlt
  cases R with
  | nil => simp [Tp.keys] at hlt
  | node k y n s c r => exact ⟨_, _, _, _, _, _, rfl⟩
theorem keys_done {C D R : Fo} (h : C = Tp.app D R) (hlt : ¬ (Tp.keys D).length < (Tp.keys C).length) : C = D := by
  subst h
  rw [Tp.keys_app, List.length_append] at hlt
  cases R with
  | nil => rw [Tp.app_nil]
  | node k y n s c r => simp [Tp.keys] at hlt
/-- What stands beside a key, if something does. -/
def GetIs (l : List Nd) (key : ByteArray) (r : List Nd) (b : Bool) : Prop :=
  (∃ y n s c D k2 n2 s2 c2 R, May l (.node 7 y n s c .nil) ∧ c = Tp.app D (.node k2 key n2 s2 c2 R) ∧ key ∉ Tp.keys D ∧ r = cutF k2 n2 s2 c2 ∧ b = true) ∨
  (r = [] ∧ b = false ∧ (chk l ≠ 0 ∨ ∃ k y n s c, May l (.node k y n s c .nil) ∧ (k ≠ 7 ∨ key ∉ Tp.keys c)))
theorem first_key (key : ByteArray) : ∀ C : Fo, key ∈ Tp.keys C → ∃ D k2 n2 s2 c2 R, C = Tp.app D (.node k2 key n2 s2 c2 R) ∧ key ∉ Tp.keys D
  | .nil, h => by simp [Tp.keys] at h
  | .node k y n s c r, h => by
    by_cases e : y = key
    · subst e
      exact ⟨.nil, k, n, s, c, r, rfl, by simp [Tp.keys]⟩
    · have h2 : key ∈ Tp.keys r := by
        simp only [Tp.keys, List.mem_cons] at h
        exact h.resolve_left (fun e2 => e e2.symm)
      obtain ⟨D, k2, n2, s2, c2, R, rfl, hn⟩ := first_key key r h2
      refine ⟨.node k y n s c D, k2, n2, s2, c2, R, rfl, ?_⟩
      simp only [Tp.keys, List.mem_cons]
      exact fun hm => hm.elim (fun e2 => e e2.symm) hn
theorem get_ex (l : List Nd) (key : ByteArray) : ∃ r b, GetIs l key r b := by
  by_cases h0 : chk l = 0
  · obtain ⟨F, hF, _⟩ := may_of h0
    obtain ⟨⟨k, y, n, s, c, rfl, hy⟩, _⟩ := hF.2.1
    by_cases hk : k = 7 ∧ key ∈ Tp.keys c
    · obtain ⟨rfl, hm⟩ := hk
      obtain ⟨D, k2, n2, s2, c2, R, h1, h2⟩ := first_key key c hm
      exact ⟨_, true, .inl ⟨y, n, s, c, D, k2, n2, s2, c2, R, hF, h1, h2, rfl, rfl⟩⟩
    · exact ⟨[], false, .inr ⟨rfl, rfl, .inr ⟨k, y, n, s, c, hF, by
        by_cases h7 : k = 7
        · exact .inr fun hm => hk ⟨h7, hm⟩
        · exact .inl h7⟩⟩⟩
  · exact ⟨[], false, .inr ⟨rfl, rfl, .inl h0⟩⟩
/-- What Get leaves. -/
def GPost (w : World) (r : List Nd) (b : Bool) (e : Ending) (w' : World) : Prop := ∃ v', e = .returned (.tuple #[v', .bool b]) ∧ OwnN w' w.heap.size v' r ∧ Below w.heap.size w w'

/-- The first part with a key is one. -/
theorem first_same : ∀ {D D' : Fo} {k k' n n' : Int} {y y' s s' : ByteArray} {c c' R R' : Fo}, Tp.app D (.node k y n s c R) = Tp.app D' (.node k' y' n' s' c' R') → y ∉ Tp.keys D → y ∉ Tp.keys D' → y = y' → k = k' ∧ n = n' ∧ s = s' ∧ c = c'
  | .nil, .nil, _, _, _, _, _, _, _, _, _, _, _, _, h, _, _, _ => by
    simp only [Tp.app] at h
    injection h with e1 e2 e3 e4 e5 e6
    exact ⟨e1, e3, e4, e5⟩
  | .nil, .node k1 y1 n1 s1 c1 r1, _, _, _, _, _, _, _, _, _, _, _, _, h, _, hn, _ => by
    simp only [Tp.app] at h
    injection h with e1 e2
    exact absurd (by rw [e2]; simp [Tp.keys]) hn
  | .node k1 y1 n1 s1 c1 r1, .nil, _, _, _, _, _, _, _, _, _, _, _, _, h, hn, _, hy => by
    simp only [Tp.app] at h
    injection h with e1 e2
    exact absurd (by rw [hy, ← e2]; simp [Tp.keys]) hn
  | .node k1 y1 n1 s1 c1 r1, .node k2 y2 n2 s2 c2 r2, _, _, _, _, _, _, _, _, _, _, _, _, h, hn, hn', hy => by
    simp only [Tp.app] at h
    injection h with e1 e2 e3 e4 e5 e6
    exact first_same e6 (fun hm => hn (by simp [Tp.keys, hm])) (fun hm => hn' (by simp [Tp.keys, hm])) hy
/-- How far the loop over an object's keys is. -/
structure KI (c : Fo) (key : ByteArray) (D R : Fo) (j : Nat) : Prop where
  eq : c = Tp.app D R
  j : j = (Tp.keys D).length
  no : key ∉ Tp.keys D
set_option maxHeartbeats 8000000 in
theorem get (v : Value) (l : List Nd) (key : ByteArray) (w : World) (h : RdN w w.heap.size v l) (hok : ∀ x ∈ l, Nok x) (T : Tab w) (r : List Nd) (b : Bool) (hr : GetIs l key r b) :
    Calls Tryd.prog 43 #[v, .string key] w fun e w' => GPost w r b e w' := by
  have C := Lib.hid (check v l w h hok T _ rfl)
  by_cases h0 : chk l = 0
  · rw [h0] at C
    obtain ⟨F, hF, _⟩ := may_of h0
    obtain ⟨⟨k, y, n, s, c, rfl, hy⟩, _⟩ := hF.2.1
    have hA : Tp.At l 0 (.node k y n s c .nil) := by rw [← hF.2.1.2.2]; exact Tp.at_flat _
    have hx := (Tp.at_node.1 hA).1
    have HX := Lib.hid hx
    have hlt : 0 < l.length := (List.getElem?_eq_some_iff.1 hx).1
    have hlt2 : (0 : Int) < l.length := by omega
    have HR := Lib.hid h
    by_cases h7 : k = 7
    · subst h7
      have CP := Lib.hid (fun (w2 : World) (hw : Below w.heap.size w w2) => partsOf w v l 0 0 w2 h hF.1 hw rfl 7 n y s c hA)
      have HAc := Lib.hid (Tp.at_node.1 hA).2.1
      have CC := Lib.hid (fun (w2 : World) (hw : Below w.heap.size w w2) p k n y s c hA => cutOut w v l p w2 h hF.1 hw k n y s c hA)
      have hlen := plcs_len 1 c
      have hszc := Tp.At.len hA
      rw [Tp.sz_node, Tp.sz_nil] at hszc
      have HRE : Hid ((∃ D k2 n2 s2 c2 R, c = Tp.app D (.node k2 key n2 s2 c2 R) ∧ key ∉ Tp.keys D ∧ r = cutF k2 n2 s2 c2 ∧ b = true) ∨ (r = [] ∧ b = false ∧ key ∉ Tp.keys c)) := Lib.hid (by
        rcases hr with ⟨y', n', s', c', D, k2, n2, s2, c2, R, hM, h1, h2, h3, h4⟩ | ⟨h1, h2, h3 | ⟨k', y', n', s', c', hM, h3⟩⟩
        · have := rt_one hM.2.1 hF.2.1
          injection this with e1 e2 e3 e4 e5
          subst e5
          exact .inl ⟨D, k2, n2, s2, c2, R, h1, h2, h3, h4⟩
        · exact absurd h0 h3
        · have := rt_one hM.2.1 hF.2.1
          injection this with e1 e2 e3 e4 e5
          subst e1 e5
          exact .inr ⟨h1, h2, h3.resolve_left (fun h => h rfl)⟩)
      have hl := hF.1
      obtain ⟨ad, cp, rfl, _⟩ := Gn.Rd.form h
      have HPL := Lib.hid (plcs_keys 1 c)
      have hpl4 : ((plcs 1 c).length : Int) ≤ 4000 := by omega
      clear h hok T hr hF hA hx h0 hlen
      go_enter Tryd.func43, Tryd.ntmps43
      go_wp2_with fail
      ((with_reducible refine (C.out).mono ?_); rintro e w2 ⟨rfl, b2⟩)
      have HB := Lib.hid b2
      obtain ⟨b0, off, rfl, x0, _, _, _, _⟩ := rdN_cells HR.out b2 HX.out
      rw [Nat.zero_mul, Nat.add_zero] at x0
      clear b2
      go_wp2_with fail
      ((with_reducible refine (CP.out _ HB.out).mono ?_); rintro e w3 ⟨pv, rfl, ho, b3⟩)
      have HB3 := Lib.hid (up HB.out b3)
      have HO := Lib.hid (Gn.Own.rd inL ho)
      obtain ⟨pad, pcp, rfl, _⟩ := Gn.Rd.form HO.out
      rw [show 0 + 1 = 1 from rfl] at HO
      simp only [Nat.zero_add] at ho HO ⊢
      clear b3 ho x0
      go_wp2_with fail
      go_loopw [21] (fun i wr => ∃ (j : Nat) (D R : Fo), i = .int .i64 (j : Nat) ∧ j ≤ (plcs 1 c).length ∧ Hid (KI c key D R j) ∧ Hid (Below w3.heap.size w3 wr)) (fun i _ => (plcs 1 c).length - (intOf i).toNat)
      case atStart => exact ⟨0, .nil, c, by rfl, by omega, Lib.hid ⟨rfl, rfl, by simp [Tp.keys]⟩, Lib.hid (Below.refl _ _)⟩
      case round =>
        obtain ⟨j, D, R, rfl, hj, HD, HU⟩ := hrel
        have HWr := Lib.hid (up HB3.out HU.out)
        by_cases hjl : j < (plcs 1 c).length
        · have hjl' : (j : Int) < (plcs 1 c).length := by omega
          obtain ⟨kk, ky, kn, ks, kc, kr, hRe⟩ := keys_split HD.out.eq j HD.out.j (by rw [← HPL.out]; exact hjl)
          have hpj : (plcs 1 c)[j]? = some ((1 + Tp.sz D : Nat) : Int) := by rw [HD.out.eq, hRe, HD.out.j]; exact plcs_at 1 D kk ky kn ks kc kr
          have hAD := (Tp.at_app.1 (show Tp.At l (0 + 1) (Tp.app D R) by rw [← HD.out.eq]; exact HAc.out)).2
          rw [hRe, show 0 + 1 + Tp.sz D = 1 + Tp.sz D by omega] at hAD
          obtain ⟨q, hq⟩ : ∃ q, 1 + Tp.sz D = q := ⟨_, rfl⟩
          rw [hq] at hpj hAD
          have hqx := (Tp.at_node.1 hAD).1
          have hql : (q : Int) < l.length := by have := (List.getElem?_eq_some_iff.1 hqx).1; omega
          obtain ⟨pb, po, e, pc⟩ := rdI_cell HO.out HU.out hpj
          subst e
          obtain ⟨b', off', e, _, q1, _, _, _⟩ := rdN_cells HR.out HWr.out hqx
          obtain ⟨rfl, rfl⟩ : b0 = b' ∧ off = off' := by injection e with e; injection e with e1 e2; exact ⟨e1, e2⟩
          have HAQ := Lib.hid (show Tp.At l q (.node kk ky kn ks kc .nil) from Tp.at_node.2 ⟨hqx, (Tp.at_node.1 hAD).2.1, Tp.At.nil _ _⟩)
          have HRe := Lib.hid hRe
          clear e hpj hAD hqx hRe hq
          by_cases hyk : ky = key
          · have hq1 : (ky.toList == key.toList) = true := by rw [bl_eq, hyk]; simp
            obtain ⟨hr1, rfl⟩ : r = cutF kk kn ks kc ∧ b = true := by
              rcases HRE.out with ⟨D', k2, n2, s2, c2, R', h1, h2, h3, h4⟩ | ⟨_, _, h3⟩
              · have e := HD.out.eq
                rw [HRe.out] at e
                have hsame := first_same (h1.symm.trans e) h2 HD.out.no hyk.symm
                exact ⟨by rw [h3, hsame.1, hsame.2.1, hsame.2.2.1, hsame.2.2.2], h4⟩
              · exfalso
                apply h3
                rw [HD.out.eq, HRe.out, Tp.keys_app, Tp.keys, hyk]
                exact List.mem_append_right _ (List.mem_cons_self ..)
            have CT := Lib.hid (CC.out wr HWr.out q kk kn ky ks kc HAQ.out)
            rw [← hr1] at CT
            clear hyk hr1
            go_wp2_with fail
            ((with_reducible refine (CT.out).mono ?_); rintro e w5 ⟨v5, rfl, ho, hb⟩)
            have HB5 := Lib.hid (up HWr.out hb)
            have HO5 := Lib.hid (Gn.Own.lower ho HWr.out.size)
            clear ho hb
            go_wp2_with fail
            go_ret2
            exact ⟨_, rfl, HO5.out, HB5.out⟩
          · have hq1 : (ky.toList == key.toList) = false := by rw [bl_eq]; exact decide_eq_false fun e => hyk (bl_inj e)
            have HD2 : Hid (KI c key (Tp.app D (.node kk ky kn ks kc .nil)) kr (j + 1)) := Lib.hid ⟨by rw [HD.out.eq, HRe.out, app_step], by rw [Tp.keys_app, List.length_append, ← HD.out.j]; rfl, by
              rw [Tp.keys_app]
              simp only [Tp.keys, List.mem_append, List.mem_singleton]
              exact fun hm => hm.elim HD.out.no (fun e => hyk e.symm)⟩
            clear hyk
            go_wp2_with fail
            go_roundw
            case rel => exact ⟨j + 1, _, kr, by go_num, by omega, HD2, HU⟩
            case measure => simp [intOf]; omega
        · have hjl' : ¬ (j : Int) < (plcs 1 c).length := by omega
          obtain ⟨rfl, rfl⟩ : r = [] ∧ b = false := by
            rcases HRE.out with ⟨D', k2, n2, s2, c2, R', h1, h2, h3, h4⟩ | ⟨h1, h2, h3⟩
            · exfalso
              have e := keys_done HD.out.eq (by rw [← HD.out.j, ← HPL.out]; exact hjl)
              apply HD.out.no
              rw [← e, h1, Tp.keys_app, Tp.keys]
              exact List.mem_append_right _ (List.mem_cons_self ..)
            · exact ⟨h1, h2⟩
          go_wp2_with fail
          go_ret2
          exact ⟨_, rfl, Gn.Own.nil _ _, HWr.out⟩
    · obtain ⟨rfl, rfl⟩ : r = [] ∧ b = false := by
        rcases hr with ⟨y', n', s', c', D, k2, n2, s2, c2, R, hM, h1, h2, h3, h4⟩ | ⟨h1, h2, _⟩
        · exfalso
          have := rt_one hM.2.1 hF.2.1
          injection this with e1
          exact h7 e1.symm
        · exact ⟨h1, h2⟩
      obtain ⟨ad, cp, rfl, _⟩ := Gn.Rd.form h
      clear h hok T hr hF hA hx h0
      go_enter Tryd.func43, Tryd.ntmps43
      go_wp2_with fail
      ((with_reducible refine (C.out).mono ?_); rintro e w2 ⟨rfl, b2⟩)
      have HB := Lib.hid b2
      obtain ⟨b0, off, rfl, x0, _, _, _, _⟩ := rdN_cells HR.out b2 HX.out
      rw [Nat.zero_mul, Nat.add_zero] at x0
      clear b2
      go_wp2_with fail
      go_ret2
      exact ⟨_, rfl, Gn.Own.nil _ _, HB.out⟩
  · obtain ⟨rfl, rfl⟩ : r = [] ∧ b = false := by
      rcases hr with ⟨y', n', s', c', D, k2, n2, s2, c2, R, hM, _⟩ | ⟨h1, h2, _⟩
      · exact absurd (may_chk hM).1 h0
      · exact ⟨h1, h2⟩
    have h0' : ((chk l : Int) != 0) = true := by simpa using h0
    clear h hok T hr h0
    generalize chk l = e at *
    go_enter Tryd.func43, Tryd.ntmps43
    go_wp2_with fail
    ((with_reducible refine (C.out).mono ?_); rintro e w2 ⟨rfl, b2⟩)
    have HB := Lib.hid b2
    clear b2
    go_wp2_with fail
    go_ret2
    exact ⟨_, rfl, Gn.Own.nil _ _, HB.out⟩
end Go.Proofs.YteklcfimafplbaaDoor
