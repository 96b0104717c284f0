/- Part and Get, of the program and the reference. -/
import Derived.Test.YteklcfimafplbaaDoorPart
namespace Go.Proofs.YteklcfimafplbaaDoor
open Go.RowKit
set_option linter.unusedVariables false
set_option maxRecDepth 100000

/-- What stands at a place, by itself. -/
def PartIs (l : List Nd) (i : Int) (r : List Nd) : Prop :=
  (∃ (p : Nat) (k : Int) (y : ByteArray) (n : Int) (s : ByteArray) (c : Fo), i = p ∧ chk l = 0 ∧ l.length ≤ 4000 ∧ Tp.At l p (.node k y n s c .nil) ∧ r = cutF k n s c) ∨ ((i < 0 ∨ (l.length : Int) ≤ i ∨ chk l ≠ 0) ∧ r = [])
theorem part_ex (l : List Nd) (i : Int) : ∃ r, PartIs l i r := by
  by_cases h : i < 0 ∨ (l.length : Int) ≤ i ∨ chk l ≠ 0
  · exact ⟨_, .inr ⟨h, rfl⟩⟩
  · have h0 : chk l = 0 := Classical.byContradiction fun e => h (.inr (.inr e))
    obtain ⟨F, hF, _⟩ := may_of h0
    obtain ⟨p, hp⟩ := Int.eq_ofNat_of_zero_le (show 0 ≤ i by omega)
    have hl : l.length = Tp.sz F := by rw [← hF.2.1.2.2]; rfl
    have hA : Tp.At l 0 F := by rw [← hF.2.1.2.2]; exact Tp.at_flat F
    obtain ⟨k, y, n, s, c, h1, _⟩ := sub_at F 0 p hA hF.2.1.2.1 (by omega)
    rw [Nat.zero_add] at h1
    exact ⟨_, .inl ⟨p, k, y, n, s, c, hp, h0, hF.1, h1, rfl⟩⟩
set_option maxHeartbeats 4000000 in
theorem part (v : Value) (l : List Nd) (w : World) (h : RdN w w.heap.size v l) (hok : ∀ x ∈ l, Nok x) (T : Tab w) (i : Int) (hi : -9223372036854775808 ≤ i ∧ i ≤ 9223372036854775807) (r : List Nd) (hr : PartIs l i r) :
    Calls Tryd.prog 15 #[v, .int .i64 i] w fun e w' => MkPost w r e w' := by
  have C := Lib.hid (check v l w h hok T _ rfl)
  rcases hr with ⟨p, k, y, n, s, c, rfl, h0, hl, hA, rfl⟩ | ⟨hc, rfl⟩
  · have CC := Lib.hid (fun (w2 : World) (hw : Below w.heap.size w w2) => cutOut w v l p w2 h hl hw k n y s c hA)
    have hlt := (List.getElem?_eq_some_iff.1 (Tp.at_node.1 hA).1).1
    have hlt1 : ¬ ((l.length : Int) ≤ p) := by omega
    have hlt2 : ¬ ((p : Int) < 0) := by omega
    rw [h0] at C
    obtain ⟨ad, cp, rfl, _⟩ := Gn.Rd.form h
    clear h hok T h0 hA
    go_enter Tryd.func15, Tryd.ntmps15
    go_wp2_with fail
    ((with_reducible refine (C.out).mono ?_); rintro e w2 ⟨rfl, b2⟩)
    have HB := Lib.hid b2
    clear b2
    go_wp2_with fail
    ((with_reducible refine (CC.out _ HB.out).mono ?_); rintro e w3 ⟨v3, rfl, ho, b3⟩)
    have HB3 := Lib.hid (up HB.out b3)
    have HO := Lib.hid (Gn.Own.lower ho HB.out.size)
    clear b3 ho
    go_wp2_with fail
    go_ret
    exact ⟨_, rfl, HO.out, HB3.out⟩
  · obtain ⟨ad, cp, rfl, _⟩ := Gn.Rd.form h
    clear h hok T
    by_cases h1 : i < 0
    · clear hc C
      go_enter Tryd.func15, Tryd.ntmps15
      go_wp2_with fail
      go_ret
      exact ⟨_, rfl, Gn.Own.nil _ _, Below.refl _ _⟩
    · by_cases h2 : (l.length : Int) ≤ i
      · clear hc C
        go_enter Tryd.func15, Tryd.ntmps15
        go_wp2_with fail
        go_ret
        exact ⟨_, rfl, Gn.Own.nil _ _, Below.refl _ _⟩
      · have h3 : chk l ≠ 0 := by rcases hc with h | h | h <;> first | exact absurd h h1 | exact absurd h h2 | exact h
        have h3' : ((chk l : Int) != 0) = true := by simpa using h3
        clear hc h3
        generalize chk l = e at *
        go_enter Tryd.func15, Tryd.ntmps15
        go_wp2_with fail
        ((with_reducible refine (C.out).mono ?_); rintro e w2 ⟨rfl, b2⟩)
        have HB := Lib.hid b2
        clear b2
        go_wp2_with fail
        go_ret
        exact ⟨_, rfl, Gn.Own.nil _ _, HB.out⟩
set_option maxHeartbeats 4000000 in
theorem rpart (v : Value) (l : List Nd) (w : World) (h : RdN w w.heap.size v l) (hok : ∀ x ∈ l, Nok x) (i : Int) (hi : -9223372036854775808 ≤ i ∧ i ≤ 9223372036854775807) (r : List Nd) (hr : PartIs l i r) :
    Calls Tryd.prog 55 #[v, .int .i64 i] w fun e w' => MkPost w r e w' := by
  have C := Lib.hid (rcheck v l w h hok _ rfl)
  rcases hr with ⟨p, k, y, n, s, c, rfl, h0, hl, hA, rfl⟩ | ⟨hc, rfl⟩
  · have hlen := Tp.At.len hA
    rw [Tp.sz_node, Tp.sz_nil] at hlen
    have h00 := (Tp.at_node.1 hA).1
    have hlt := (List.getElem?_eq_some_iff.1 h00).1
    have hlt1 : ¬ ((l.length : Int) ≤ p) := by omega
    have hlt2 : ¬ ((p : Int) < 0) := by omega
    have hlt3 : (p : Int) < l.length := by omega
    have hcut := at_cut hA
    rw [Tp.sz_node, Tp.sz_nil] at hcut
    rw [h0] at C
    have HR := Lib.hid h
    obtain ⟨ad, cp, rfl, hcp, _⟩ := Gn.Rd.form h
    have hx := h00
    have HX := Lib.hid hx
    have hur := fun (w2 : World) (hb : Below w.heap.size w w2) => Gn.rd_sliced w2 w.heap.size ad l l.length cp p (p + (1 + Tp.sz c + 0)) (Gn.Rd.below h hb (Nat.le_refl _)) rfl (by omega) (by omega)
    obtain ⟨b0, off, rfl, _⟩ := rdN_cells h (Below.refl _ _) h00
    have HUR : Hid (∀ (w2 : World), Below w.heap.size w w2 → RdN w2 w.heap.size (.slice (some ⟨b0, off + p * 5, none⟩) (p + (1 + Tp.sz c) - p) (cp - p)) (Tp.flat (.node k y n s c .nil))) := Lib.hid (fun w2 hb => by
      have := hur w2 hb
      rw [hcut, if_neg (by omega), Option.map_some, Gn.plain, show p + (1 + Tp.sz c + 0) - p = p + (1 + Tp.sz c) - p by omega] at this
      exact this)
    have HFL : Hid ((Tp.flat (.node k y n s c .nil)).length = 1 + Tp.sz c) := Lib.hid (by show Tp.sz _ = _; rw [Tp.sz_node]; simp)
    have hsc : Tp.sz c ≤ 4000 := by omega
    clear h hok h0 hA h00 hx hcut hur
    go_enter Tryd.func55, Tryd.ntmps55
    go_wp2_with fail
    ((with_reducible refine (C.out).mono ?_); rintro e w2 ⟨rfl, b2⟩)
    have HB := Lib.hid b2
    have HO : Hid (OwnN w2 w.heap.size (.slice none 0 0) []) := Lib.hid (Gn.Own.nil _ _)
    have HRw := Lib.hid (Gn.Rd.more (HUR.out w2 b2) b2.size)
    obtain ⟨b', off', e, _, _, _, _, y4⟩ := rdN_cells HR.out b2 HX.out
    obtain ⟨rfl, rfl⟩ : b0 = b' ∧ off = off' := by injection e with e; injection e with e1 e2; exact ⟨e1, e2⟩
    clear b2 e
    go_wp2_with (at_builtin
                 refine Gn.wpList_app ndL ndY rfl (.tmp 20) (.tmp 30) rfl w.heap.size _ [] rfl HO.out _ _ rfl HRw.out (by have := HFL.out; simp; omega) HB.out.size ?_
                 intro v1 w1 ho1 hg1 hl1 hn1
                 have hb1 := HB.out.trans (Gn.below_of_own HO.out hg1 HB.out.size)
                 rw [List.nil_append] at ho1
                 obtain ⟨g, cap, rfl⟩ : ∃ g cap, v1 = .slice (some ⟨g, 0, none⟩) (Tp.flat (.node k y n s c .nil)).length cap := by
                   rcases ho1.2 with ⟨_, h⟩ | ⟨g, cap, cur, rfl, _⟩
                   · rw [HFL.out] at h; omega
                   · exact ⟨g, cap, rfl⟩
                 obtain ⟨q1, q2, q3, q4⟩ := own_key ho1 rfl
                 have HQ := Lib.hid q1
                 have HB2 := Lib.hid (hb1.setCell (p := ⟨g, 1, none⟩) q4 (.string ⟨#[]⟩))
                 have hpos : (0 : Int) < ((Tp.flat (.node k y n s c .nil)).length : Nat) := by have := HFL.out; omega
                 have hpos2 : 0 < (Tp.flat (.node k y n s c .nil)).length := by have := HFL.out; omega
                 clear ho1 hg1 hl1 hn1 hb1 q1 HRw
                 generalize (Tp.flat (.node k y n s c .nil)).length = len at *)
    go_ret
    exact ⟨_, rfl, HQ.out, HB2.out⟩
  · obtain ⟨ad, cp, rfl, _⟩ := Gn.Rd.form h
    clear h hok
    by_cases h3 : chk l = 0
    · rw [h3] at C
      have hc' : i < 0 ∨ (l.length : Int) ≤ i := by rcases hc with h | h | h <;> first | exact .inl h | exact .inr h | exact absurd h3 h
      clear hc h3
      by_cases h1 : i < 0
      · go_enter Tryd.func55, Tryd.ntmps55
        go_wp2_with fail
        ((with_reducible refine (C.out).mono ?_); rintro e w2 ⟨rfl, b2⟩)
        have HB := Lib.hid b2
        clear b2
        go_wp2_with fail
        go_ret
        exact ⟨_, rfl, Gn.Own.nil _ _, HB.out⟩
      · have h2 : (l.length : Int) ≤ i := hc'.resolve_left h1
        clear hc'
        go_enter Tryd.func55, Tryd.ntmps55
        go_wp2_with fail
        ((with_reducible refine (C.out).mono ?_); rintro e w2 ⟨rfl, b2⟩)
        have HB := Lib.hid b2
        clear b2
        go_wp2_with fail
        go_ret
        exact ⟨_, rfl, Gn.Own.nil _ _, HB.out⟩
    · have h3' : ((chk l : Int) != 0) = true := by simpa using h3
      clear hc h3
      generalize chk l = e at *
      go_enter Tryd.func55, Tryd.ntmps55
      go_wp2_with fail
      ((with_reducible refine (C.out).mono ?_); rintro e w2 ⟨rfl, b2⟩)
      have HB := Lib.hid b2
      clear b2
      go_wp2_with fail
      go_ret
      exact ⟨_, rfl, Gn.Own.nil _ _, HB.out⟩
end Go.Proofs.YteklcfimafplbaaDoor
