/- The places of parts. -/
import Derived.Test.YteklcfimafplbaaDoorMake
namespace Go.Proofs.YteklcfimafplbaaDoor
open Go.RowKit
set_option linter.unusedVariables false
set_option maxRecDepth 100000

/-- The places of values one behind the other, the first one's being o. -/
def plcs : Nat → Fo → List Int
  | _, .nil => []
  | o, .node k y n s c r => (o : Int) :: plcs (o + 1 + Tp.sz c) r
theorem plcs_app : ∀ (o : Nat) (F G : Fo), plcs o (Tp.app F G) = plcs o F ++ plcs (o + Tp.sz F) G
  | o, .nil, G => by simp [Tp.app, plcs]
  | o, .node k y n s c r, G => by
    rw [Tp.app, plcs, plcs, plcs_app, Tp.sz_node, List.cons_append]
    rw [show o + 1 + Tp.sz c + Tp.sz r = o + (1 + Tp.sz c + Tp.sz r) by omega]
theorem plcs_len : ∀ (o : Nat) (F : Fo), (plcs o F).length ≤ Tp.sz F
  | _, .nil => by simp [plcs]
  | o, .node k y n s c r => by rw [plcs, List.length_cons, Tp.sz_node]; have := plcs_len (o + 1 + Tp.sz c) r; omega
theorem plcs_snoc (o : Nat) (D : Fo) (k : Int) (y : ByteArray) (n : Int) (s : ByteArray) (c : Fo) : plcs o (Tp.app D (.node k y n s c .nil)) = plcs o D ++ [((o + Tp.sz D : Nat) : Int)] := by
  rw [plcs_app]; rfl
/-- Which places are the root's parts'. -/
def KidsIs (l : List Nd) (ks : List Int) : Prop := (∃ k y n s c, May l (.node k y n s c .nil) ∧ ks = plcs 1 c) ∨ (chk l ≠ 0 ∧ ks = [])
theorem kids_ex (l : List Nd) : ∃ ks, KidsIs l ks := by
  by_cases h : chk l = 0
  · obtain ⟨F, hF, _⟩ := may_of h
    obtain ⟨⟨k, y, n, s, c, rfl, _⟩, _⟩ := hF.2.1
    exact ⟨_, .inl ⟨k, y, n, s, c, hF, rfl⟩⟩
  · exact ⟨_, .inr ⟨h, rfl⟩⟩
/-- What partsOf answers. -/
def OwPost (w : World) (ks : List Int) (e : Ending) (w' : World) : Prop := ∃ v', e = .returned v' ∧ OwnI w' w.heap.size v' ks ∧ Below w.heap.size w w'

set_option maxHeartbeats 4000000 in
theorem partsOf (W : World) (v : Value) (l : List Nd) (a : Nat) (A : Int) (w : World) (hR : RdN W W.heap.size v l) (hl : l.length ≤ 4000) (hW : Below W.heap.size W w) (hA : A = (a : Nat)) (k n : Int) (y s : ByteArray) (c : Fo) (hAt : Tp.At l a (.node k y n s c .nil)) :
    Calls Tryd.prog 36 #[v, .int .i64 A] w fun e w' => OwPost w (plcs (a + 1) c) e w' := by
  have HR := Lib.hid hR
  have HW := Lib.hid hW
  have HAt := Lib.hid (Tp.at_node.1 hAt)
  have hlen := Tp.At.len hAt
  rw [Tp.sz_node, Tp.sz_nil] at hlen
  have hlt : (a : Int) < l.length := by have := (List.getElem?_eq_some_iff.1 HAt.out.1).1; omega
  obtain ⟨ad, cp, rfl, _⟩ := Gn.Rd.form hR
  obtain ⟨b0, off, rfl, _, _, _, _, c4⟩ := rdN_cells hR hW HAt.out.1
  obtain rfl := hA
  have HO0 : Hid (OwnI w w.heap.size (.slice none 0 0) (plcs (a + 1) .nil)) := Lib.hid (Gn.Own.nil _ _)
  have hsl := plcs_len (a + 1) c
  have HSL := Lib.hid hsl
  clear hR hW hAt hsl
  go_enter Tryd.func36, Tryd.ntmps36
  go_wp2_with fail
  clear c4
  go_loopw [5, 7] (fun pv i wr => ∃ (D R : Fo) (q : Nat), i = .int .i64 (q : Nat) ∧ Hid (c = Tp.app D R ∧ a + 1 + Tp.sz D = q ∧ OwnI wr w.heap.size pv (plcs (a + 1) D)) ∧ Hid (Below w.heap.size w wr)) (fun pv i _ => a + 1 + Tp.sz c - (intOf i).toNat)
  case atStart => exact ⟨.nil, c, a + 1, by go_num, Lib.hid ⟨rfl, by simp, HO0.out⟩, Lib.hid (Below.refl _ _)⟩
  case round =>
    obtain ⟨D, R, q, rfl, HD, HU⟩ := hrel
    have HWr := Lib.hid (HW.out.trans (HU.out.mono HW.out.size))
    have hsz : Tp.sz c = Tp.sz D + Tp.sz R := by rw [HD.out.1, Tp.sz_app]
    have hqa : a + 1 + Tp.sz D = q := HD.out.2.1
    by_cases hq : q < a + 1 + Tp.sz c
    · obtain ⟨kk, ky, kn, ks, kc, kr, hRe, hx, hAc⟩ := at_split (D := D) (R := R) (by rw [← HD.out.1]; exact HAt.out.2.1) (by omega)
      have hszR : Tp.sz R = 1 + Tp.sz kc + Tp.sz kr := by rw [hRe, Tp.sz_node]
      rw [hqa] at hx
      have hql : (q : Int) < l.length := by omega
      have hqE : (q : Int) < a + (1 + (Tp.sz c : Nat)) := by omega
      have HX := Lib.hid hx
      have hb1 : (q : Int) + (1 + (Tp.sz kc : Nat)) ≤ 4000 := by omega
      have hpl : (plcs (a + 1) D).length ≤ 4000 := by have := plcs_len (a + 1) D; omega
      have HO1 := Lib.hid (Gn.Own.later HD.out.2.2 (up_new wr (.cells #[.int .i64 (q : Nat)] 3)))
      have HR1 := Lib.hid (rd_one 3 inL wr ((q : Nat) : Int) #[.int .i64 (q : Nat)] rfl)
      have HS1 := Lib.hid (up HU.out (up_new wr (.cells #[.int .i64 (q : Nat)] 3)))
      have HD2 : Hid (c = Tp.app (Tp.app D (.node kk ky kn ks kc .nil)) kr ∧ a + 1 + Tp.sz (Tp.app D (.node kk ky kn ks kc .nil)) = q + (1 + Tp.sz kc) ∧ plcs (a + 1) (Tp.app D (.node kk ky kn ks kc .nil)) = plcs (a + 1) D ++ [(q : Int)]) :=
        Lib.hid ⟨by rw [HD.out.1, hRe, app_step], by rw [Tp.sz_app, Tp.sz_node]; simp; omega, by rw [plcs_snoc, ← hqa]⟩
      clear hx hAc hRe hsz hszR
      go_wp2_with (at_builtin
                   refine Gn.wpList_app inL plY rfl (.tmp 27) (.tmp 29) rfl w.heap.size _ _ rfl HO1.out _ _ rfl HR1.out (by simp; omega) HS1.out.size ?_
                   intro v1 w1 ho1 hg1 hl1 hn1
                   have HB1 := Lib.hid (HS1.out.trans (Gn.below_of_own HO1.out hg1 HS1.out.size))
                   have HO2 := Lib.hid ho1
                   have HW1 := Lib.hid (HW.out.trans (HB1.out.mono HW.out.size))
                   obtain ⟨b', off', e, _, _, _, _, y4⟩ := rdN_cells HR.out HW1.out HX.out
                   obtain ⟨rfl, rfl⟩ : b0 = b' ∧ off = off' := by injection e with e; injection e with e1 e2; exact ⟨e1, e2⟩
                   clear e ho1 hg1 hl1 hn1 HO1 HR1 HS1)
      go_roundw
      case rel => exact ⟨_, kr, q + (1 + Tp.sz kc), by go_num, Lib.hid ⟨HD2.out.1, HD2.out.2.1, by rw [HD2.out.2.2]; exact HO2.out⟩, HB1⟩
      case measure => simp [intOf]; omega
    · have hqE : ¬ (q : Int) < a + (1 + (Tp.sz c : Nat)) := by omega
      have HF : Hid (c = D) := Lib.hid (by
        have : R = .nil := Tp.sz_zero (by omega)
        rw [HD.out.1, this, Tp.app_nil])
      clear hsz hqa
      go_wp2_with fail
      go_ret
      exact ⟨_, rfl, by rw [HF.out]; exact HD.out.2.2, HU.out⟩
set_option maxHeartbeats 4000000 in
theorem kids (v : Value) (l : List Nd) (w : World) (h : RdN w w.heap.size v l) (hok : ∀ x ∈ l, Nok x) (T : Tab w) (ks : List Int) (hk : KidsIs l ks) :
    Calls Tryd.prog 16 #[v] w fun e w' => OwPost w ks e w' := by
  rcases hk with ⟨k, y, n, s, c, hM, rfl⟩ | ⟨h0, rfl⟩
  · have C := Lib.hid (check v l w h hok T 0 (may_chk hM).1)
    have hAt : Tp.At l 0 (.node k y n s c .nil) := by rw [← hM.2.1.2.2]; exact Tp.at_flat _
    have CP := Lib.hid (fun (w2 : World) (hw : Below w.heap.size w w2) => partsOf w v l 0 0 w2 h hM.1 hw rfl k n y s c hAt)
    clear h hok T hM hAt
    go_enter Tryd.func16, Tryd.ntmps16
    go_wp2_with fail
    ((with_reducible refine (C.out).mono ?_); rintro e w2 ⟨rfl, b2⟩)
    have HB := Lib.hid b2
    clear b2
    go_wp2_with fail
    ((with_reducible refine (CP.out _ HB.out).mono ?_); rintro e w3 ⟨v3, rfl, ho, b3⟩)
    have HB3 := Lib.hid (up HB.out b3)
    have HO := Lib.hid (Gn.Own.lower ho HB.out.size)
    clear b3 ho
    go_wp2_with fail
    go_ret
    exact ⟨_, rfl, HO.out, HB3.out⟩
  · have C := Lib.hid (check v l w h hok T _ rfl)
    have h0' : ((chk l : Int) != 0) = true := by simpa using h0
    clear h hok T h0
    generalize chk l = e at *
    go_enter Tryd.func16, Tryd.ntmps16
    go_wp2_with fail
    ((with_reducible refine (C.out).mono ?_); rintro e w2 ⟨rfl, b2⟩)
    have HB := Lib.hid b2
    clear b2
    go_wp2_with fail
    go_ret
    exact ⟨_, rfl, Gn.Own.nil _ _, HB.out⟩
set_option maxHeartbeats 4000000 in
theorem rkids (v : Value) (l : List Nd) (w : World) (h : RdN w w.heap.size v l) (hok : ∀ x ∈ l, Nok x) (ks : List Int) (hk : KidsIs l ks) :
    Calls Tryd.prog 51 #[v] w fun e w' => OwPost w ks e w' := by
  rcases hk with ⟨k, y, n, s, c, hM, rfl⟩ | ⟨h0, rfl⟩
  · have C := Lib.hid (rcheck v l w h hok 0 (may_chk hM).1)
    have HAt := Lib.hid (Tp.at_node.1 (show Tp.At l 0 (.node k y n s c .nil) by rw [← hM.2.1.2.2]; exact Tp.at_flat _))
    have hll : l.length = 1 + Tp.sz c := by
      have : (Tp.flat (.node k y n s c .nil)).length = 1 + Tp.sz c := by show Tp.sz _ = _; rw [Tp.sz_node]; simp
      rw [← this, hM.2.1.2.2]
    have hl := hM.1
    have HLL := Lib.hid hll
    have HR := Lib.hid h
    obtain ⟨ad, cp, rfl, _⟩ := Gn.Rd.form h
    have HO0 : ∀ w2 : World, Hid (OwnI w2 w.heap.size (.slice none 0 0) (plcs 1 .nil)) := fun w2 => Lib.hid (Gn.Own.nil _ _)
    clear h hok hM hll
    go_enter Tryd.func51, Tryd.ntmps51
    go_wp2_with fail
    ((with_reducible refine (C.out).mono ?_); rintro e w2 ⟨rfl, b2⟩)
    have HB := Lib.hid b2
    clear b2
    go_wp2_with fail
    go_loopw [3, 4] (fun pv i wr => ∃ (D R : Fo) (q : Nat), i = .int .i64 (q : Nat) ∧ Hid (c = Tp.app D R ∧ 1 + Tp.sz D = q ∧ OwnI wr w.heap.size pv (plcs 1 D)) ∧ Hid (Below w.heap.size w wr)) (fun pv i _ => 1 + Tp.sz c - (intOf i).toNat)
    case atStart => exact ⟨.nil, c, 1, by rfl, Lib.hid ⟨rfl, by simp, (HO0 _).out⟩, HB⟩
    case round =>
      obtain ⟨D, R, q, rfl, HD, HU⟩ := hrel
      have hsz : Tp.sz c = Tp.sz D + Tp.sz R := by rw [HD.out.1, Tp.sz_app]
      have hqa : 1 + Tp.sz D = q := HD.out.2.1
      by_cases hq : q < 1 + Tp.sz c
      · obtain ⟨kk, ky, kn, ks, kc, kr, hRe, hx, hAc⟩ := at_split (D := D) (R := R) (by rw [← HD.out.1]; exact HAt.out.2.1) (by omega)
        have hszR : Tp.sz R = 1 + Tp.sz kc + Tp.sz kr := by rw [hRe, Tp.sz_node]
        rw [show 0 + 1 + Tp.sz D = q by omega] at hx
        have hql : (q : Int) < l.length := by have := HLL.out; omega
        have HX := Lib.hid hx
        have hb1 : (q : Int) + (1 + (Tp.sz kc : Nat)) ≤ 4000 := by have := HLL.out; omega
        have hpl : (plcs 1 D).length ≤ 4000 := by have := plcs_len 1 D; have := HLL.out; omega
        have HO1 := Lib.hid (Gn.Own.later HD.out.2.2 (up_new wr (.cells #[.int .i64 (q : Nat)] 3)))
        have HR1 := Lib.hid (rd_one 3 inL wr ((q : Nat) : Int) #[.int .i64 (q : Nat)] rfl)
        have HS1 := Lib.hid (up HU.out (up_new wr (.cells #[.int .i64 (q : Nat)] 3)))
        have HD2 : Hid (c = Tp.app (Tp.app D (.node kk ky kn ks kc .nil)) kr ∧ 1 + Tp.sz (Tp.app D (.node kk ky kn ks kc .nil)) = q + (1 + Tp.sz kc) ∧ plcs 1 (Tp.app D (.node kk ky kn ks kc .nil)) = plcs 1 D ++ [(q : Int)]) :=
          Lib.hid ⟨by rw [HD.out.1, hRe, app_step], by rw [Tp.sz_app, Tp.sz_node]; simp; omega, by rw [plcs_snoc, ← hqa]⟩
        clear hx hAc hRe hsz hszR
        go_wp2_with (at_builtin
                     refine Gn.wpList_app inL plY rfl (.tmp 20) (.tmp 22) rfl w.heap.size _ _ rfl HO1.out _ _ rfl HR1.out (by simp; omega) HS1.out.size ?_
                     intro v1 w1 ho1 hg1 hl1 hn1
                     have HB1 := Lib.hid (HS1.out.trans (Gn.below_of_own HO1.out hg1 HS1.out.size))
                     have HO2 := Lib.hid ho1
                     obtain ⟨b', off', rfl, _, _, _, _, y4⟩ := rdN_cells HR.out HB1.out HX.out
                     clear ho1 hg1 hl1 hn1 HO1 HR1 HS1)
        go_roundw
        case rel => exact ⟨_, kr, q + (1 + Tp.sz kc), by go_num, Lib.hid ⟨HD2.out.1, HD2.out.2.1, by rw [HD2.out.2.2]; exact HO2.out⟩, HB1⟩
        case measure => simp [intOf]; omega
      · have hqE : ¬ (q : Int) < l.length := by have := HLL.out; omega
        have HF : Hid (c = D) := Lib.hid (by
          have : R = .nil := Tp.sz_zero (by omega)
          rw [HD.out.1, this, Tp.app_nil])
        clear hsz hqa
        go_wp2_with fail
        go_ret
        exact ⟨_, rfl, by rw [HF.out]; exact HD.out.2.2, HU.out⟩
  · have C := Lib.hid (rcheck v l w h hok _ rfl)
    have h0' : ((chk l : Int) != 0) = true := by simpa using h0
    clear h hok h0
    generalize chk l = e at *
    go_enter Tryd.func51, Tryd.ntmps51
    go_wp2_with fail
    ((with_reducible refine (C.out).mono ?_); rintro e w2 ⟨rfl, b2⟩)
    have HB := Lib.hid b2
    clear b2
    go_wp2_with fail
    go_ret
    exact ⟨_, rfl, Gn.Own.nil _ _, HB.out⟩
end Go.Proofs.YteklcfimafplbaaDoor
