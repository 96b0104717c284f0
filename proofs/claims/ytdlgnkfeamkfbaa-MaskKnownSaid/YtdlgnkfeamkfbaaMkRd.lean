/- The walks of MaskReads, MaskOnly and MaskBack. -/
import Derived.Test.YtdlgnkfeamkfbaaMkW
import Derived.Deep.RegionHeld3
import Derived.Deep.DrawnRows
namespace Go.Proofs.Ytdlgnkfeamkfbaa
open Go.RowKit
set_option linter.unusedVariables false
set_option maxRecDepth 100000
attribute [local go_sem ↓] Go.wp_at_zero Go.wp_at_succ

theorem RdB.drew {w : World} {B : Nat} {v : Value} {l : List Bool} (h : RdB w B v l) : RdB w.drew B v l := h
set_option maxHeartbeats 2000000 in
theorem maskReads (v : Value) (l : List Nat) (m : Int) (w : World) (h : Rd w w.heap.size v l) (m0 : -9223372036854775808 ≤ m) (m1 : m ≤ 9223372036854775807) :
    Calls Try.prog 4 #[v, .int .i64 m] w fun e w' => e = .returned (.bool true) ∧ Below w.heap.size w w' := by
  have hll := h.len
  unfold maxLen at hll
  obtain ⟨aa, ca, rfl, pa, qa, _⟩ := id h
  unfold maxLen at qa
  obtain ⟨n, hn⟩ : ∃ n, min l.length 60 = n := ⟨_, rfl⟩
  have M := min_is l.length 60 n (by omega)
  obtain ⟨na, n2⟩ : n ≤ l.length ∧ n ≤ 60 := by omega
  have k1 : (n : Int) ≤ (ca : Int) := by omega
  have HA := Lib.hid (h.takes rfl n na)
  have lt1 : (l.take n).length = n := by rw [List.length_take]; omega
  have HL := Lib.hid lt1
  generalize l.take n = L at *
  clear hn h lt1
  go_enter Try.func4, Try.ntmps4
  go_wp2_with fail
  refine (copyBytes _ _ _ HA.out (by rw [HL.out]; omega)).mono ?_
  rintro e w1 ⟨r1, rfl, o1, b1⟩
  obtain ⟨⟨x, k, er⟩, hx⟩ : ∃ q, Mk.un L m = q := ⟨_, rfl⟩
  have HU := Lib.hid (unpack r1 L m w1 o1.rd)
  have O1 := Lib.hid o1
  have B1 := Lib.hid b1
  have HX := Lib.hid hx
  rw [hx] at HU
  clear o1 b1 hx
  go_wp2_with fail
  refine HU.out.mono ?_
  rintro e w2 ⟨u2, rfl, o2, b2⟩
  have HU2 := Lib.hid (runpack r1 L m w2 (O1.out.rd.later (Nat.le_refl _) b2))
  rw [HX.out] at HU2
  have O2 := Lib.hid o2
  have B2 := Lib.hid b2
  clear HU o2 b2 HX
  go_wp2_with fail
  refine HU2.out.mono ?_
  rintro e w3 ⟨u3, rfl, o3, b3⟩
  have HS := Lib.hid (same u2 u3 x x w3 ((RdB.of O2.out).later b3) o3 true (by simp))
  have B3 := Lib.hid (up B2.out b3)
  clear HU2 O2 B2 o3 b3
  go_wp2_with fail
  refine HS.out.mono ?_
  rintro e w4 ⟨rfl, b4⟩
  have B4 := Lib.hid (up B3.out b4)
  have R4 := Lib.hid (O1.out.rd.later (Nat.le_refl _) B4.out)
  have A4 := Lib.hid (HA.out.later (Nat.le_refl _) (up B1.out B4.out))
  clear HS B3 b4 O1
  go_wp2_with fail
  refine (eq_yes _ _ _ _ _ R4.out A4.out rfl).mono ?_
  rintro e w' ⟨rfl, rfl⟩
  go_wp2_with fail
  refine (works _).mono ?_
  rintro e w5 ⟨rfl, b5⟩
  go_wp2
  go_ret
  exact ⟨rfl, up (up B1.out B4.out) b5⟩

theorem un_err (b : List Nat) (n : Int) (x : List Bool) (k : Int) (e : Nat) (h : Mk.un b n = (x, k, e)) (he : e ≠ 0) : x = [] ∧ k = 0 := by
  unfold Mk.un at h
  repeat' split at h
  all_goals (simp only [Prod.mk.injEq] at h; obtain ⟨h1, h2, h3⟩ := h)
  · exact ⟨h1.symm, h2.symm⟩
  · exact ⟨h1.symm, h2.symm⟩
  · exact ⟨h1.symm, h2.symm⟩
  · exact absurd h3.symm he
theorem OwnB.form0 {w : World} {base : Nat} {v : Value} {l : List Bool} (h : OwnB w base v l) : ∃ a c, v = .slice a l.length c := by
  obtain ⟨h0, h1⟩ := h
  rcases h1 with ⟨rfl, hn⟩ | ⟨g, cap, cur, rfl, _⟩
  · exact ⟨none, 0, by rw [hn]⟩
  · exact ⟨_, _, rfl⟩
theorem Own.form1 {w : World} {base : Nat} {v : Value} {l : List Nat} (h : Own w base v l) : ∃ a c, v = .slice a l.length c ∧ l.length ≤ c := by
  obtain ⟨⟨h0, h1⟩, hb⟩ := h
  rcases h1 with ⟨rfl, hn⟩ | ⟨g, cap, cur, rfl, _, _, hc, _⟩
  · exact ⟨none, 0, by rw [hn], by omega⟩
  · exact ⟨_, _, rfl, hc⟩
set_option maxHeartbeats 2000000 in
theorem maskOnly (v : Value) (l : List Nat) (m : Int) (w : World) (h : Rd w w.heap.size v l) (m0 : -9223372036854775808 ≤ m) (m1 : m ≤ 9223372036854775807) :
    Calls Try.prog 6 #[v, .int .i64 m] w fun e w' => e = .returned (.bool true) ∧ Below w.heap.size w w' := by
  have hll := h.len
  unfold maxLen at hll
  obtain ⟨aa, ca, rfl, pa, qa, _⟩ := id h
  unfold maxLen at qa
  obtain ⟨n, hn⟩ : ∃ n, min l.length 60 = n := ⟨_, rfl⟩
  have M := min_is l.length 60 n (by omega)
  obtain ⟨na, n2⟩ : n ≤ l.length ∧ n ≤ 60 := by omega
  have k1 : (n : Int) ≤ (ca : Int) := by omega
  have HA := Lib.hid (h.takes rfl n na)
  have lt1 : (l.take n).length = n := by rw [List.length_take]; omega
  have HL := Lib.hid lt1
  generalize l.take n = L at *
  clear hn h lt1
  go_enter Try.func6, Try.ntmps6
  go_wp2_with fail
  refine (works _).mono ?_
  rintro e w0 ⟨rfl, b0⟩
  have HA0 := Lib.hid (HA.out.later (Nat.le_refl _) b0)
  have B0 := Lib.hid b0
  clear HA b0
  go_wp2_with fail
  refine (copyBytes _ _ _ HA0.out (by rw [HL.out]; omega)).mono ?_
  rintro e w1 ⟨r1, rfl, o1, b1⟩
  obtain ⟨⟨x, k, er⟩, hx⟩ : ∃ q, Mk.un L m = q := ⟨_, rfl⟩
  have HU := Lib.hid (unpack r1 L m w1 o1.rd)
  have HX := Lib.hid hx
  rw [hx] at HU
  obtain ⟨a1, c1, rfl, hc1⟩ := o1.form1
  have O1 := Lib.hid o1
  have B1 := Lib.hid (up B0.out b1)
  clear b1 hx M HA0 B0
  go_wp2_with fail
  refine HU.out.mono ?_
  rintro e w2 ⟨u2, rfl, o2, b2⟩
  obtain ⟨a2, c2, rfl⟩ := o2.form0
  have O2 := Lib.hid o2
  have B2 := Lib.hid (up B1.out b2)
  by_cases he : er = 0
  · subst he
    obtain ⟨h1, h2, h3, h4⟩ := Mk.un_only L m x k o1.2 HX.out
    have R1 := (O1.out.rd.later (Nat.le_refl _) b2)
    have R2 := Lib.hid (R1.takes rfl _ h3)
    obtain ⟨s, hs⟩ : ∃ s, Mk.sz x.length = s := ⟨_, rfl⟩
    have HP := Lib.hid (fun w3 h => pack (.slice a2 x.length c2) x w3 h (by unfold Mk.sz at h3; have := HL.out; omega))
    rw [hs] at h2 h3 h4 HP R2
    subst h2
    rw [← h1]
    have h5 : (s : Int) ≤ L.length := by omega
    have h6 : (s : Int) ≤ c1 := by omega
    have H4 := Lib.hid h4
    clear HX HU O1 o1 o2 b2 R1 h1 h4 hs
    go_wp2
    go_region_held3 (fun _ => True) (trivial)
      (first
      | (go_at_call 11; refine (HP.out _ (RdB.of O2.out).drew).mono ?_; rintro e w3 ⟨r3, rfl, ho3, b3⟩)
      | (go_at_call 12; refine (eq_yes _ _ _ _ _ ho3.rd (R2.out.later (Nat.le_refl _) (undrew b3)) H4.out).mono ?_; rintro e w' ⟨rfl, rfl⟩))
    go_wp2
    go_ret
    exact ⟨rfl, up B2.out (undrew b3)⟩
  · obtain ⟨rfl, rfl⟩ := un_err L m x k er HX.out he
    have he1 : ((er : Int) != 0) = true := by simp; omega
    clear HX HU
    go_wp2
    go_ret
    exact ⟨rfl, B2.out⟩
theorem step_appb {w : World} {ops : Array Oper} {o : Oper} {a : Act} {K : Act → World → Prop} {Q : Exit → Act → World → Prop} {E : Prop} (hgd : o.guard = none) (s x : Operand)
    (ho : o.op = .call { callee := .builtin .append, args := #[s, x], argTypes := #[24, 24] })
    (base : Nat) (v : Value) (l : List Nat) (hs : a.eval s = v) (hown : Own w base v l) (u : Value) (r : List Nat) (hx : a.eval x = u) (hr : Rd w w.heap.size u r)
    (hlen : l.length + r.length ≤ 1000000000) (hbase : base ≤ w.heap.size)
    (h : ∀ v' w', Own w' base v' (l ++ r) → Below base w w' → K (a.put o.dst v') w') : if Region.wanted o (yielded ops a.tmps) = true then Oper.wp Try.prog o a w K Q else E := by
  have hw : Region.wanted o (yielded ops a.tmps) = true := by simp [Region.wanted, hgd]
  rw [if_pos hw]
  obtain ⟨v', w', hrun, h2, h3⟩ := run_app w o.type base v l hown u r hr hlen hbase
  unfold Oper.wp execOp
  simp only [ho, resolve, invoke, builtin, Sem.run_bind, Sem.run_pure, Result.andThen_ok, List.map_toArray, List.map_cons, List.map_nil, hs, hx, hrun]
  exact h v' w' h2 h3
theorem up3 {w w1 w2 w3 : World} (h : Below w.heap.size w w1) (h2 : Below w.heap.size w1 w2) (h3 : Below w2.heap.size w2 w3) : Below w.heap.size w w3 := up (h.trans h2) h3
theorem Rd.drew' {w : World} {B : Nat} {v : Value} {l : List Nat} (h : Rd w B v l) : Rd w.drew B v l := h
set_option maxHeartbeats 4000000 in
theorem maskBack (v : Value) (l : List Bool) (v2 : Value) (b : List Nat) (w : World) (h : RdB w w.heap.size v l) (h2 : Rd w w.heap.size v2 b) :
    Calls Try.prog 5 #[v, v2] w fun e w' => e = .returned (.bool true) ∧ Below w.heap.size w w' := by
  have hll := h2.len
  unfold maxLen at hll
  obtain ⟨aa, ca, rfl, pa, qa, _⟩ := id h2
  unfold maxLen at qa
  obtain ⟨n, hn⟩ : ∃ n, min b.length 60 = n := ⟨_, rfl⟩
  have M := min_is b.length 60 n (by omega)
  obtain ⟨na, n2⟩ : n ≤ b.length ∧ n ≤ 60 := by omega
  have k1 : (n : Int) ≤ (ca : Int) := by omega
  have HA := Lib.hid (h2.takes rfl n na)
  have lt1 : (b.take n).length = n := by rw [List.length_take]; omega
  have HL := Lib.hid lt1
  generalize b.take n = L at *
  clear hn h2 lt1
  go_enter Try.func5, Try.ntmps5
  go_wp2_with fail
  refine (cutB v l _ h).mono ?_
  rintro e w1 ⟨r1, rfl, o1, b1⟩
  have hml : (l.take 300).length ≤ 300 := by rw [List.length_take]; omega
  generalize l.take 300 = m at *
  obtain ⟨a1, c1, rfl⟩ := o1.form0
  have O1 := Lib.hid o1
  have B1 := Lib.hid b1
  clear o1 b1 h
  go_wp2_with fail
  refine (pack _ m _ (RdB.of O1.out) (by omega)).mono ?_
  rintro e w2 ⟨r2, rfl, o2, b2⟩
  obtain ⟨s, hs⟩ : ∃ s, Mk.sz m.length = s := ⟨_, rfl⟩
  rw [hs] at o2
  have hs2 : s ≤ 100 := by rw [← hs]; unfold Mk.sz; omega
  have hpl := Mk.pk_len s m
  have HUB := Lib.hid (Mk.un_back m L (by omega))
  rw [hs] at HUB
  obtain ⟨a2, c2, rfl, hc2⟩ := o2.form1
  rw [hpl] at o2 hc2 ⊢
  have O2 := Lib.hid o2
  have B2 := Lib.hid (up B1.out b2)
  have M2 := Lib.hid ((RdB.of O1.out).later b2)
  have A2 := Lib.hid (HA.out.later (Nat.le_refl _) B2.out)
  have HSZ : Hid (szP (m.length : Nat) = (s : Nat)) := Lib.hid (szP_nat m.length (by omega) s hs)
  have HPL := Lib.hid hpl
  have HCP := Lib.hid (copyBytes _ _ w2.drew O2.out.rd.drew' (by rw [hpl]; omega))
  have HUP : Hid (∀ r w3, Rd w3 w3.heap.size r (Mk.pk s m ++ L) → Calls Try.prog 21 #[r, .int .i64 (m.length : Nat)] w3 (UnPost w3 (m, (s : Int), 0))) := Lib.hid (fun r w3 h => by have := unpack r _ (m.length : Nat) w3 h; rwa [HUB.out] at this)
  clear o2 b2 O1 B1 HA hs hpl HUB
  go_wp2
  go_region_held3 (fun _ => True) (trivial)
    (first
    | (go_at_call 21; refine (HUP.out _ _ HO4.out.rd).mono ?_; rintro e w5 ⟨u5, rfl, o5, b5⟩; have HO5 := Lib.hid o5; have HB5 := Lib.hid b5; clear o5 b5)
    | (refine step_appb (by rfl) (.tmp 16) (.tmp 21) (by rfl) w2.heap.size r3 (Mk.pk s m) (by rfl) HO3.out _ L (by rfl) (A2.out.later (Nat.le_refl _) (undrew HB3.out)) (by rw [HPL.out, HL.out]; omega) (undrew HB3.out).size ?_; intro v4 w4 ho4 b4; have HO4 := Lib.hid ho4; have HB4 := Lib.hid b4; clear ho4 b4)
    | (go_at_call 20; refine HCP.out.mono ?_; rintro e w3 ⟨r3, rfl, ho3, b3⟩; have HO3 := Lib.hid ho3; have HB3 := Lib.hid b3; clear ho3 b3))
  all_goals
    have B5 := Lib.hid (up3 (undrew HB3.out) HB4.out HB5.out)
    clear HB3 HB4 HO3 HO4 HCP HUP M
    have MM := Lib.hid (M2.out.later B5.out)
    have BW := Lib.hid (up B2.out B5.out)
    have HS := Lib.hid (same u5 _ m m w5 (RdB.of HO5.out) MM.out true (by simp))
    clear MM HO5 HB5 B5 M2
    go_wp2_with fail
    refine HS.out.mono ?_
    rintro e w6 ⟨rfl, b6⟩
    have BW6 := Lib.hid (up BW.out b6)
    clear BW b6 HS
    go_wp2_with fail
    refine (size (m.length : Nat) _ _ HSZ.out).mono ?_
    rintro e w' ⟨rfl, rfl⟩
    go_wp2_with fail
    refine (works _).mono ?_
    rintro e w7 ⟨rfl, b7⟩
    go_wp2
    go_ret
    exact ⟨rfl, up BW6.out b7⟩
end Go.Proofs.Ytdlgnkfeamkfbaa
