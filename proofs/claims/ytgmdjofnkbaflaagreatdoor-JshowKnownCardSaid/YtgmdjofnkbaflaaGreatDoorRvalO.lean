/- The reference: objects' parts; all values. -/
import Derived.Test.YtgmdjofnkbaflaaGreatDoorRval
namespace Go.Proofs.YtgmdjofnkbaflaaGreatDoor
open Go.RowKit
set_option linter.unusedVariables false
set_option maxRecDepth 100000

/-- Of the parts that are known these were gone over: no key of theirs is z's. -/
structure DI (a : Nat) (C : Fo) (z : Nd) (D R : Fo) (q : Nat) : Prop where
  eq : C = Tp.app D R
  pl : a + 1 + Tp.sz D = q
  no : z.key ∉ Tp.keys D
theorem DI.step {l : List Nd} {a s p q : Nat} {k : Int} {C D R : Fo} {z : Nd} (h : DI a C z D R q) (hI : RI l a s k C) (hp : a + 1 + Tp.sz C = p) (hq : q < p) :
    ∃ y t, l[q]? = some y ∧ y.size = (t : Nat) ∧ 1 ≤ t ∧ q + t ≤ p ∧ (y.key = z.key → z.key ∈ Tp.keys C) ∧ (¬ y.key = z.key → ∃ D' R', DI a C z D' R' (q + t)) := by
  obtain ⟨rfl, h2, h3⟩ := h
  rw [Tp.sz_app] at hp
  cases R with
  | nil => simp at hp; omega
  | node ky yy yn ys yc yr =>
    have hA := hI.at_
    rw [Tp.at_app] at hA
    have hA2 := hA.2
    rw [h2] at hA2
    have h0 := (Tp.at_node.1 hA2).1
    rw [Tp.sz_node] at hp
    refine ⟨_, 1 + Tp.sz yc, h0, by simp, by omega, by omega, fun e => ?_, fun e => ⟨Tp.app D (.node ky yy yn ys yc .nil), yr, ?_, ?_, ?_⟩⟩
    · rw [Tp.keys_app, Tp.keys]
      simp only at e
      rw [← e]
      exact List.mem_append_right _ (List.mem_cons_self ..)
    · rw [Tp.app_assoc]; rfl
    · rw [Tp.sz_app, Tp.sz_node]; simp; omega
    · rw [Tp.keys_app]
      simp only [Tp.keys, List.mem_append, List.mem_singleton]
      exact fun hm => hm.elim h3 (fun e2 => e e2.symm)
theorem DI.all {l : List Nd} {a s p q : Nat} {k : Int} {C D R : Fo} {z : Nd} (h : DI a C z D R q) (hI : RI l a s k C) (hp : a + 1 + Tp.sz C = p) (hq : ¬ q < p) : z.key ∉ Tp.keys C := by
  obtain ⟨rfl, h2, h3⟩ := h
  rw [Tp.sz_app] at hp
  have : R = .nil := Tp.sz_zero (by omega)
  subst this
  rw [Tp.app_nil]
  exact h3

set_option maxHeartbeats 8000000 in
theorem rparts_obj (W : World) (v : Value) (l : List Nd) (n a s : Nat) (IH : RClaim W v l n) (hR : RdN W W.heap.size v l) (hok : ∀ x ∈ l, Nok x) (hl : l.length ≤ 4000) (w : World) (hW : Below W.heap.size W w) (x : Nd) (hx : l[a]? = some x) (hn : l.length - (a + 1) ≤ n) (has : a + s ≤ l.length) (hs : x.size = s) (hs1 : 1 ≤ s) (hk : x.kind = 7) (b : Bool) (hb : b = true ↔ PP l a 7 s) :
    Calls Tryz.prog 178 #[v, .int .i64 a] w fun e w' => e = .returned (.bool b) ∧ Below w.heap.size w w' := by
  have hlt : a < l.length := (List.getElem?_eq_some_iff.1 hx).1
  have hlt' : (a : Int) < l.length := by omega
  have HR := Lib.hid hR
  have HX := Lib.hid hx
  have HO := Lib.hid hok
  have HB := Lib.hid hb
  have HW := Lib.hid hW
  obtain ⟨ad, c, rfl, hc1, hc2, _⟩ := Gn.Rd.form hR
  obtain ⟨bl0, off, rfl, c0, _, _, _, c4⟩ := rdN_cells hR hW hx
  rw [hs] at c4
  clear hR hok hb hx hW
  go_enter Tryz.func178, Tryz.ntmps178
  go_wp2_with fail
  clear c0 c4
  go_loopw [6] (fun i wr => ∃ (p : Nat) (C : Fo), a + 1 + Tp.sz C = p ∧ i = .int .i64 (p : Nat) ∧ Hid (RI l a s 7 C) ∧ Hid (Below w.heap.size w wr)) (fun i _ => (a + s) - (intOf i).toNat)
  case atStart => exact ⟨a + 1, .nil, by simp, by go_num, Lib.hid (RI.start hs1), Lib.hid (Below.refl _ _)⟩
  case round =>
    obtain ⟨p, C, hp, rfl, HI, HU⟩ := hrel
    by_cases hpl : p < a + s
    · have hpl' : (p : Int) < a + s := by omega
      have hll : p < l.length := by omega
      have hll' : (p : Int) < l.length := by omega
      obtain ⟨z, hz⟩ : ∃ z, l[p]? = some z := ⟨_, List.getElem?_eq_getElem hll⟩
      have HWr := Lib.hid (HW.out.trans (HU.out.mono HW.out.size))
      obtain ⟨b', off', e, c0, _, _, _, _⟩ := rdN_cells HR.out HWr.out HX.out
      obtain ⟨rfl, rfl⟩ : bl0 = b' ∧ off = off' := by injection e with e; injection e with e1 e2; exact ⟨e1, e2⟩
      obtain ⟨b', off', e2, _, z1, _, _, _⟩ := rdN_cells HR.out HWr.out hz
      obtain ⟨rfl, rfl⟩ : bl0 = b' ∧ off = off' := by injection e2 with e; injection e with e1 e2; exact ⟨e1, e2⟩
      rw [hk] at c0
      clear e e2
      have hpa : a + 1 ≤ p := by omega
      have HP := Lib.hid hp
      have HZ := Lib.hid hz
      clear hp
      have HNO := Lib.hid (fun (h : ¬ Tp.k1 7 (Tp.keys C) z.key ∨ ¬ Tp.Vp l p (a + s - p)) => (show b = false by
        have := HI.out.no HP.out hpl HZ.out h
        cases b with
        | false => rfl
        | true => exact absurd (HB.out.1 rfl) this))
      have hzk := (HO.out z (List.mem_of_getElem? hz)).2.1
      by_cases hv : Tp.Vp l p (a + s - p)
      · have CI := Lib.hid (IH p (a + s - p) (a + s) wr true (by omega) (by omega) (by omega) (by omega) HWr.out ⟨fun _ => hv, fun _ => rfl⟩)
        obtain ⟨G, hG⟩ := hv
        have HN := Lib.hid (fun hk => HI.out.next (k := 7) HP.out hpl HZ.out hk hG)
        have HKG := Lib.hid (val_keys hG HZ.out)
        have hG1 : 1 ≤ Tp.sz G := by obtain ⟨⟨_, _, _, _, _, rfl⟩, _⟩ := hG; rw [Tp.sz_node]; omega
        have hG2 : (p : Int) + Tp.sz G ≤ 4000 := by have := hG.2.2.2; omega
        have HGS : Hid (z.size = (Tp.sz G : Nat)) := Lib.hid (by
          obtain ⟨⟨_, _, _, _, _, rfl⟩, hA, _⟩ := hG
          have h0 := (Tp.at_node.1 hA).1
          rw [HZ.out] at h0
          obtain rfl : z = _ := by injection h0
          rw [Tp.sz_node]; simp)
        clear hG hz
        go_wp2_with fail
        ((with_reducible refine (CI.out).mono ?_); rintro e w3 ⟨rfl, b3⟩)
        have HU3 := Lib.hid (up HU.out b3)
        have HW3 := Lib.hid (HW.out.trans (HU3.out.mono HW.out.size))
        obtain ⟨b', off', e, y0, _, _, _, _⟩ := rdN_cells HR.out HW3.out HX.out
        obtain ⟨rfl, rfl⟩ : bl0 = b' ∧ off = off' := by injection e with e; injection e with e1 e2; exact ⟨e1, e2⟩
        obtain ⟨b', off', e2, _, y1, _, _, y4⟩ := rdN_cells HR.out HW3.out HZ.out
        obtain ⟨rfl, rfl⟩ : bl0 = b' ∧ off = off' := by injection e2 with e; injection e with e1 e2; exact ⟨e1, e2⟩
        rw [hk] at y0
        clear e e2 b3 c0 z1 CI y4
        by_cases hy : Utf.vld (bl z.key) = true
        · have CV := Lib.hid (fun w => rvalid z.key w hzk true hy)
          go_wp2_with fail
          ((with_reducible refine (CV.out _).mono ?_); rintro e w4 ⟨rfl, b4⟩)
          have HU4 := Lib.hid (up HU3.out b4)
          clear b4 y0 y1
          go_wp2_with fail
          go_loopw [7] (fun i wi => ∃ (q : Nat) (D R : Fo), i = .int .i64 (q : Nat) ∧ Hid (DI a C z D R q) ∧ Hid (Below w.heap.size w wi)) (fun i _ => p - (intOf i).toNat)
          case atStart => exact ⟨a + 1, .nil, C, by go_num, Lib.hid ⟨rfl, by simp, by simp [Tp.keys]⟩, HU4⟩
          case round =>
            obtain ⟨q, D, R, rfl, HD, HUi⟩ := hrel
            have HWi := Lib.hid (HW.out.trans (HUi.out.mono HW.out.size))
            by_cases hqp : q < p
            · obtain ⟨y, t, hyq, hyt, ht1, htp, hsame, hnext⟩ := HD.out.step HI.out HP.out hqp
              have hqp' : (q : Int) < p := by omega
              have hqa : (0 : Int) ≤ q := by omega
              obtain ⟨b', off', e, _, u1, _, _, u4⟩ := rdN_cells HR.out HWi.out hyq
              obtain ⟨rfl, rfl⟩ : bl0 = b' ∧ off = off' := by injection e with e; injection e with e1 e2; exact ⟨e1, e2⟩
              obtain ⟨b', off', e2, _, v1, _, _, _⟩ := rdN_cells HR.out HWi.out HZ.out
              obtain ⟨rfl, rfl⟩ : bl0 = b' ∧ off = off' := by injection e2 with e; injection e with e1 e2; exact ⟨e1, e2⟩
              have g1 : wr.drew.cell? ⟨bl0, off + q * 5 + 1, none⟩ = some (.string y.key) := u1
              have g2 : wr.drew.cell? ⟨bl0, off + p * 5 + 1, none⟩ = some (.string z.key) := v1
              have g4 : wr.drew.cell? ⟨bl0, off + q * 5 + 4, none⟩ = some (.int .i64 (t : Nat)) := by rw [← hyt]; exact u4
              have hql : (q : Int) < l.length := by omega
              have hq40 : (q : Int) + t ≤ 4000 := by omega
              have hUd := Lib.hid HUi.out.drew
              clear e e2 u1 v1 u4 hyq hyt
              by_cases hyz : y.key = z.key
              · have hq : (y.key.toList == z.key.toList) = true := by rw [bl_eq, hyz]; simp
                obtain rfl : b = false := HNO.out (.inl (by unfold Tp.k1; rw [if_pos rfl]; exact fun h => h.2 (hsame hyz)))
                clear hsame hnext hyz
                go_wp2_with fail
                go_region
                all_goals
                  go_wp2_with fail
                  go_ret
                  exact ⟨rfl, hUd.out⟩
              · have hq : (y.key.toList == z.key.toList) = false := by rw [bl_eq]; exact decide_eq_false fun e => hyz (bl_inj e)
                obtain ⟨D', R', hD'⟩ := hnext hyz
                have HD' := Lib.hid hD'
                clear hsame hnext hyz hD'
                go_wp2_with fail
                go_region
                all_goals
                  go_wp2_with fail
                  go_roundw
                  case rel => exact ⟨q + t, D', R', by go_num, HD', hUd⟩
                  case measure => simp [intOf]; omega
            · have hqp' : ¬ (q : Int) < p := by omega
              have HK := Lib.hid (show Tp.k1 7 (Tp.keys C) z.key by unfold Tp.k1; rw [if_pos rfl]; exact ⟨hy, HD.out.all HI.out HP.out hqp⟩)
              have HN2 := Lib.hid (HN.out HK.out)
              obtain ⟨b', off', e2, _, _, _, _, y4⟩ := rdN_cells HR.out HWi.out HZ.out
              obtain ⟨rfl, rfl⟩ : bl0 = b' ∧ off = off' := by injection e2 with e; injection e with e1 e2; exact ⟨e1, e2⟩
              rw [HGS.out] at y4
              clear e2
              go_wp2_with fail
              go_roundw
              case rel => exact ⟨p + Tp.sz G, Tp.app C G, by have := HP.out; rw [Tp.sz_app]; omega, by go_num, Lib.hid HN2.out.2, HUi⟩
              case measure => simp [intOf]; omega
        · have CV := Lib.hid (fun w => rvalid z.key w hzk false (by simpa using hy))
          obtain rfl : b = false := HNO.out (.inl (by unfold Tp.k1; rw [if_pos rfl]; exact fun h => hy h.1))
          go_wp2_with fail
          ((with_reducible refine (CV.out _).mono ?_); rintro e w4 ⟨rfl, b4⟩)
          have HU4 := Lib.hid (up HU3.out b4)
          clear b4 y0 y1
          go_wp2_with fail
          go_ret
          exact ⟨rfl, HU4.out⟩
      · have CI := Lib.hid (IH p (a + s - p) (a + s) wr false (by omega) (by omega) (by omega) (by omega) HWr.out ⟨fun h => Bool.noConfusion h, fun h => absurd h hv⟩)
        obtain rfl : b = false := HNO.out (.inr hv)
        clear hz hv
        go_wp2_with fail
        ((with_reducible refine (CI.out).mono ?_); rintro e w3 ⟨rfl, b3⟩)
        have HU3 := Lib.hid (up HU.out b3)
        clear b3 c0 z1 CI
        go_wp2_with fail
        go_ret
        exact ⟨rfl, HU3.out⟩
    · have hpl' : ¬ (p : Int) < a + s := by omega
      have hbt : b = true := HB.out.2 (HI.out.last (by omega))
      subst hbt
      clear hp
      go_wp2_with fail
      go_ret
      exact ⟨rfl, HU.out⟩
end Go.Proofs.YtgmdjofnkbaflaaGreatDoor
