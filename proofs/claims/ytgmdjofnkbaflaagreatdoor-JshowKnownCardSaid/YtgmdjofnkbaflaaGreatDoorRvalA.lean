/- The reference: all values, whatever they are; how deep; Check. -/
import Derived.Test.YtgmdjofnkbaflaaGreatDoorRvalO
namespace Go.Proofs.YtgmdjofnkbaflaaGreatDoor
open Go.RowKit
set_option linter.unusedVariables false
set_option maxRecDepth 100000

theorem vp_small {l : List Nd} {a m : Nat} {x : Nd} (hx : l[a]? = some x) (hk : x.kind ≤ 5) (hm : 1 ≤ m) : Tp.Vp l a m ↔ Tp.hf x.kind x.n x.s ∧ x.size = 1 := by
  constructor
  · intro h
    have := Tp.vp_head h hx
    exact ⟨this.1, this.2.2.2 hk⟩
  · rintro ⟨h1, h2⟩
    exact ⟨_, Tp.vp_leaf hx h1 h2 hm⟩
theorem false_of {b : Bool} {p : Prop} (hb : b = true ↔ p) (h : ¬ p) : b = false := by
  cases b with
  | false => rfl
  | true => exact absurd (hb.1 rfl) h
set_option maxHeartbeats 8000000 in
theorem rval_leaf (W : World) (v : Value) (l : List Nd) (a m : Nat) (E : Int) (hR : RdN W W.heap.size v l) (hok : ∀ x ∈ l, Nok x) (hl : l.length ≤ 4000) (w : World) (hW : Below W.heap.size W w) (x : Nd) (hx : l[a]? = some x) (ham : a + m ≤ l.length) (hm : 1 ≤ m) (hE : E = (a + m : Nat)) (b : Bool) (hb : b = true ↔ Tp.Vp l a m)
    (hcase : x.size < 1 ∨ (m : Int) < x.size ∨ x.kind < 6 ∨ 7 < x.kind) :
    Calls Tryz.prog 143 #[v, .int .i64 a, .int .i64 E] w fun e w' => e = .returned (.bool b) ∧ Below w.heap.size w w' := by
  have hlt : a < l.length := (List.getElem?_eq_some_iff.1 hx).1
  have hlt' : (a : Int) < l.length := by omega
  have hNok := hok x (List.mem_of_getElem? hx)
  have hhead := Lib.hid (fun (h : Tp.Vp l a m) => Tp.vp_head h hx)
  have hsmall := Lib.hid (fun h => vp_small hx h hm)
  obtain ⟨ad, c, rfl, hc1, hc2, _⟩ := Gn.Rd.form hR
  obtain ⟨bl0, off, rfl, c0, c1, c2, c3, c4⟩ := rdN_cells hR hW hx
  have HB := Lib.hid hb
  have HU := Lib.hid (up_new w (.cells #[.int .i64 x.kind, .string x.key, .int .i64 x.n, .string x.s, .int .i64 x.size] 28))
  clear hR hok hb hx hW
  obtain ⟨kk, ky, kn, ks, kz⟩ := x
  unfold Nok at hNok
  simp only at c0 c1 c2 c3 c4 hNok hhead hsmall hcase HU
  obtain ⟨_, _, _, hks, _⟩ := hNok
  have HN := Lib.hid (Blk.new w 28 #[.int .i64 kk, .string ky, .int .i64 kn, .string ks, .int .i64 kz])
  by_cases h1 : kz < 1
  · obtain rfl : b = false := false_of HB.out (fun h => by have := hhead.out h; omega)
    clear hhead hsmall hcase HB HN
    go_enter Tryz.func143, Tryz.ntmps143
    go_wp2_with fail
    go_ret
    exact ⟨rfl, up_new _ _⟩
  · by_cases h2 : (m : Int) < kz
    · obtain rfl : b = false := false_of HB.out (fun h => by have := hhead.out h; omega)
      have h2' : E - a < kz := by omega
      clear hhead hsmall hcase HB HN
      go_enter Tryz.func143, Tryz.ntmps143
      go_wp2_with fail
      go_ret
      exact ⟨rfl, up_new _ _⟩
    · have h2' : ¬ E - a < kz := by omega
      rcases (show kk < 1 ∨ 7 < kk ∨ (kk = 1 ∨ kk = 2 ∨ kk = 3) ∨ kk = 4 ∨ kk = 5 by omega) with h3 | h3 | h3 | h3 | h3
      all_goals clear hcase
      case inl =>
        obtain rfl : b = false := false_of HB.out (fun h => by have := Tp.hf_kind (hhead.out h).1; omega)
        have e1 : ¬ kk = 1 := by omega
        have e2 : ¬ kk = 2 := by omega
        have e3 : ¬ kk = 3 := by omega
        have e4 : ¬ kk = 4 := by omega
        have e5 : ¬ kk = 5 := by omega
        have e6 : ¬ kk = 6 := by omega
        have e7 : ¬ kk = 7 := by omega
        clear hhead hsmall HB HN
        by_cases e8 : kn = 0
        · go_enter Tryz.func143, Tryz.ntmps143
          go_wp2_with fail
          go_ret
          exact ⟨rfl, up_new _ _⟩
        · go_enter Tryz.func143, Tryz.ntmps143
          go_wp2_with fail
          go_ret
          exact ⟨rfl, up_new _ _⟩
      case inr.inl =>
        obtain rfl : b = false := false_of HB.out (fun h => by have := Tp.hf_kind (hhead.out h).1; omega)
        have e1 : ¬ kk = 1 := by omega
        have e2 : ¬ kk = 2 := by omega
        have e3 : ¬ kk = 3 := by omega
        have e4 : ¬ kk = 4 := by omega
        have e5 : ¬ kk = 5 := by omega
        have e6 : ¬ kk = 6 := by omega
        have e7 : ¬ kk = 7 := by omega
        clear hhead hsmall HB HN
        by_cases e8 : kn = 0
        · go_enter Tryz.func143, Tryz.ntmps143
          go_wp2_with fail
          go_ret
          exact ⟨rfl, up_new _ _⟩
        · go_enter Tryz.func143, Tryz.ntmps143
          go_wp2_with fail
          go_ret
          exact ⟨rfl, up_new _ _⟩
      case inr.inr.inl =>
        have hb2 : b = true ↔ (kn = 0 ∧ ks.size = 0) ∧ kz = 1 := by
          rw [HB.out, hsmall.out (by omega)]
          unfold Tp.hf
          constructor
          · rintro ⟨h, h'⟩; exact ⟨by omega, h'⟩
          · rintro ⟨h, h'⟩; exact ⟨.inl ⟨h3, h⟩, h'⟩
        clear hhead hsmall HB HN
        by_cases e8 : kn = 0
        · by_cases e9 : ks.size = 0
          · have hq : ks.toList.isEmpty = true := by rw [bl_empty, bl_nil.2 e9]; rfl
            by_cases e10 : kz = 1
            · obtain rfl : b = true := hb2.2 ⟨⟨e8, e9⟩, e10⟩
              clear hb2 e9
              rcases h3 with rfl | rfl | rfl
              all_goals
                go_enter Tryz.func143, Tryz.ntmps143
                go_wp2_with fail
                go_ret
                exact ⟨rfl, up_new _ _⟩
            · obtain rfl : b = false := false_of hb2 (fun h => e10 h.2); have e11 : (kz == 1) = false := (by simpa using e10)
              clear hb2 e9
              rcases h3 with rfl | rfl | rfl
              all_goals
                go_enter Tryz.func143, Tryz.ntmps143
                go_wp2_with fail
                go_ret
                exact ⟨rfl, up_new _ _⟩
          · have hq : ks.toList.isEmpty = false := by rw [bl_empty]; exact decide_eq_false fun e => e9 (bl_nil.1 e)
            obtain rfl : b = false := false_of hb2 (fun h => e9 h.1.2)
            clear hb2 e9
            rcases h3 with rfl | rfl | rfl
            all_goals
              go_enter Tryz.func143, Tryz.ntmps143
              go_wp2_with fail
              go_ret
              exact ⟨rfl, up_new _ _⟩
        · obtain rfl : b = false := false_of hb2 (fun h => e8 h.1.1)
          clear hb2
          rcases h3 with rfl | rfl | rfl
          all_goals
            go_enter Tryz.func143, Tryz.ntmps143
            go_wp2_with fail
            go_ret
            exact ⟨rfl, up_new _ _⟩
      case inr.inr.inr.inl =>
        have hb2 : b = true ↔ ks.size = 0 ∧ kz = 1 := by
          rw [HB.out, hsmall.out (by omega)]
          unfold Tp.hf
          constructor
          · rintro ⟨h, h'⟩; exact ⟨by omega, h'⟩
          · rintro ⟨h, h'⟩; exact ⟨.inr (.inl ⟨h3, h⟩), h'⟩
        clear hhead hsmall HB HN
        subst h3
        by_cases e9 : ks.size = 0
        · have hq : ks.toList.isEmpty = true := by rw [bl_empty, bl_nil.2 e9]; rfl
          by_cases e10 : kz = 1
          · obtain rfl : b = true := hb2.2 ⟨e9, e10⟩
            clear hb2 e9
            by_cases e8 : kn = 0
            all_goals
              go_enter Tryz.func143, Tryz.ntmps143
              go_wp2_with fail
              go_ret
              exact ⟨rfl, up_new _ _⟩
          · obtain rfl : b = false := false_of hb2 (fun h => e10 h.2); have e11 : (kz == 1) = false := (by simpa using e10)
            clear hb2 e9
            by_cases e8 : kn = 0
            all_goals
              go_enter Tryz.func143, Tryz.ntmps143
              go_wp2_with fail
              go_ret
              exact ⟨rfl, up_new _ _⟩
        · have hq : ks.toList.isEmpty = false := by rw [bl_empty]; exact decide_eq_false fun e => e9 (bl_nil.1 e)
          obtain rfl : b = false := false_of hb2 (fun h => e9 h.1)
          clear hb2 e9
          by_cases e8 : kn = 0
          all_goals
            go_enter Tryz.func143, Tryz.ntmps143
            go_wp2_with fail
            go_ret
            exact ⟨rfl, up_new _ _⟩
      case inr.inr.inr.inr =>
        have hb2 : b = true ↔ (kn = 0 ∧ Utf.vld (bl ks) = true) ∧ kz = 1 := by
          rw [HB.out, hsmall.out (by omega)]
          unfold Tp.hf
          constructor
          · rintro ⟨h | h | h | h, h'⟩
            · omega
            · omega
            · exact ⟨h.2, h'⟩
            · omega
          · rintro ⟨h, h'⟩; exact ⟨.inr (.inr (.inl ⟨h3, h⟩)), h'⟩
        clear hhead hsmall HB
        subst h3
        by_cases e8 : kn = 0
        · by_cases e10 : kz = 1
          · subst e8 e10
            have CV := Lib.hid (rvalid ks _ hks b (show _ = b by
              rw [Bool.eq_iff_iff, hb2]; exact ⟨fun h => ⟨⟨rfl, h⟩, rfl⟩, fun h => h.1.2⟩) : Calls Tryz.prog _ _ (w.alloc (.cells #[.int .i64 5, .string ky, .int .i64 0, .string ks, .int .i64 1] 28)) _)
            clear hb2
            have hem : ∀ q : Bool, ks.toList.isEmpty = q → Calls Tryz.prog 143 #[.slice (some ⟨bl0, off, none⟩) l.length c, .int .i64 a, .int .i64 E] w fun e w' => e = .returned (.bool b) ∧ Below w.heap.size w w' := by
              intro q hq
              cases q
              all_goals
                go_enter Tryz.func143, Tryz.ntmps143
                go_wp2_with fail
                ((with_reducible refine (CV.out).mono ?_); rintro e w3 ⟨rfl, b3⟩)
                have HU3 := Lib.hid (up HU.out b3)
                clear b3
                go_wp2_with fail
                go_ret
                exact ⟨rfl, HU3.out⟩
            exact hem _ rfl
          · obtain rfl : b = false := false_of hb2 (fun h => e10 h.2); have e11 : (kz == 1) = false := (by simpa using e10)
            clear hb2
            have hem : ∀ q : Bool, ks.toList.isEmpty = q → Calls Tryz.prog 143 #[.slice (some ⟨bl0, off, none⟩) l.length c, .int .i64 a, .int .i64 E] w fun e w' => e = .returned (.bool false) ∧ Below w.heap.size w w' := by
              intro q hq
              cases q
              all_goals
                go_enter Tryz.func143, Tryz.ntmps143
                go_wp2_with fail
                go_ret
                exact ⟨rfl, up_new _ _⟩
            exact hem _ rfl
        · obtain rfl : b = false := false_of hb2 (fun h => e8 h.1.1)
          clear hb2
          go_enter Tryz.func143, Tryz.ntmps143
          go_wp2_with fail
          go_ret
          exact ⟨rfl, up_new _ _⟩
set_option maxHeartbeats 8000000 in
theorem rval_kids (W : World) (v : Value) (l : List Nd) (n a m s : Nat) (E : Int) (IH : RClaim W v l n) (hR : RdN W W.heap.size v l) (hok : ∀ x ∈ l, Nok x) (hl : l.length ≤ 4000) (w : World) (hW : Below W.heap.size W w) (x : Nd) (hx : l[a]? = some x) (hn : l.length - (a + 1) ≤ n) (ham : a + m ≤ l.length) (hm : 1 ≤ m) (hE : E = (a + m : Nat)) (b : Bool) (hb : b = true ↔ Tp.Vp l a m)
    (hs : x.size = (s : Nat)) (hs1 : 1 ≤ s) (hsm : s ≤ m) (hk : x.kind = 6 ∨ x.kind = 7) :
    Calls Tryz.prog 143 #[v, .int .i64 a, .int .i64 E] w fun e w' => e = .returned (.bool b) ∧ Below w.heap.size w w' := by
  have hlt : a < l.length := (List.getElem?_eq_some_iff.1 hx).1
  have hlt' : (a : Int) < l.length := by omega
  have CP := fun (w1 : World) (hw : Below W.heap.size W w1) (b : Bool) (hb : b = true ↔ PP l a x.kind s) => (show Calls Tryz.prog 178 #[v, .int .i64 a] w1 fun e w' => e = .returned (.bool b) ∧ Below w1.heap.size w1 w' from by
    rcases hk with h | h
    · rw [h] at hb; exact rparts_list W v l n a s IH hR hok hl w1 hw x hx hn (by omega) hs hs1 h b hb
    · rw [h] at hb; exact rparts_obj W v l n a s IH hR hok hl w1 hw x hx hn (by omega) hs hs1 h b hb)
  have hpp := fun h => pp_vp (m := m) hx hk h hs hsm
  have hhd := fun (h : Tp.Vp l a m) => (Tp.vp_head h hx).1
  obtain ⟨ad, c, rfl, hc1, hc2, _⟩ := Gn.Rd.form hR
  obtain ⟨bl0, off, rfl, c0, c1, c2, c3, c4⟩ := rdN_cells hR hW hx
  have HW := Lib.hid hW
  clear hR hok hW hx
  obtain ⟨kk, ky, kn, ks, kz⟩ := x
  simp only at c0 c1 c2 c3 c4 CP hpp hhd hk hs
  subst hs
  have h1 : ¬ ((s : Int) < 1) := by omega
  have h2 : ¬ (E - a < (s : Int)) := by omega
  by_cases e8 : kn = 0
  · subst e8
    by_cases e9 : ks.size = 0
    · have hq : ks.toList.isEmpty = true := by rw [bl_empty, bl_nil.2 e9]; rfl
      have hf : Tp.hf kk 0 ks := .inr (.inr (.inr ⟨hk, rfl, e9⟩))
      have CT := Lib.hid (CP _ (HW.out.trans ((up_new w (.cells #[.int .i64 kk, .string ky, .int .i64 0, .string ks, .int .i64 (s : Nat)] 28)).mono HW.out.size)) b (by rw [hb, hpp hf]))
      clear CP hpp hhd hb hf e9
      rcases hk with rfl | rfl
      all_goals
        go_enter Tryz.func143, Tryz.ntmps143
        go_wp2_with fail
        ((with_reducible refine (CT.out).mono ?_); rintro e w3 ⟨rfl, b3⟩)
        have HU3 := Lib.hid (up (up_new w _) b3)
        clear b3
        go_wp2_with fail
        go_ret
        exact ⟨rfl, HU3.out⟩
    · have hq : ks.toList.isEmpty = false := by rw [bl_empty]; exact decide_eq_false fun e => e9 (bl_nil.1 e)
      obtain rfl : b = false := false_of hb (fun h => by have := hhd h; unfold Tp.hf at this; omega)
      clear CP hpp hhd hb e9
      rcases hk with rfl | rfl
      all_goals
        go_enter Tryz.func143, Tryz.ntmps143
        go_wp2_with fail
        go_ret
        exact ⟨rfl, up_new _ _⟩
  · obtain rfl : b = false := false_of hb (fun h => by have := hhd h; unfold Tp.hf at this; omega)
    clear CP hpp hhd hb
    rcases hk with rfl | rfl
    all_goals
      go_enter Tryz.func143, Tryz.ntmps143
      go_wp2_with fail
      go_ret
      exact ⟨rfl, up_new _ _⟩
theorem rval_all (W : World) (v : Value) (l : List Nd) (hR : RdN W W.heap.size v l) (hok : ∀ x ∈ l, Nok x) (hl : l.length ≤ 4000) : ∀ n, RClaim W v l n
  | 0 => fun a m E w b h1 h2 h3 => by omega
  | n + 1 => by
    have IH := rval_all W v l hR hok hl n
    intro a m E w b h1 ham hm hE hW hb
    obtain ⟨x, hx⟩ : ∃ x, l[a]? = some x := ⟨_, List.getElem?_eq_getElem (by omega)⟩
    by_cases hc : x.size < 1 ∨ (m : Int) < x.size ∨ x.kind < 6 ∨ 7 < x.kind
    · exact rval_leaf W v l a m E hR hok hl w hW x hx ham hm hE b hb hc
    · obtain ⟨s, hs⟩ := Int.eq_ofNat_of_zero_le (show 0 ≤ x.size by omega)
      exact rval_kids W v l n a m s E IH hR hok hl w hW x hx (by omega) ham hm hE b hb hs (by omega) (by omega) (by omega)
end Go.Proofs.YtgmdjofnkbaflaaGreatDoor
