/- The walk of DictBytes. -/
import Derived.Test.YtenfjmdajlhfoaaDcLd
namespace Go.Proofs.Ytenfjmdajlhfoaa
open Go.RowKit
set_option linter.unusedVariables false
set_option maxRecDepth 100000

theorem step_appB {w : World} {ops : Array Oper} {o : Oper} {a : Act} {K : Act → World → Prop} {Q : Exit → Act → World → Prop} {E : Prop} (hgd : o.guard = none) (s x : Operand)
    (ho : o.op = .call { callee := .builtin .append, args := #[s, x], argTypes := #[23, 23] })
    (base : Nat) (v : Value) (l : List Nat) (hs : a.eval s = v) (hown : Own w base v l) (u : Value) (r : List Nat) (hx : a.eval x = u) (hr : Rd w w.heap.size u r)
    (hlen : l.length + r.length ≤ 1000000000) (hbase : base ≤ w.heap.size)
    (h : ∀ v' w', Own w' base v' (l ++ r) → Below base w w' → K (a.put o.dst v') w') : if Region.wanted o (yielded ops a.tmps) = true then Oper.wp Try.prog o a w K Q else E := by
  have hw : Region.wanted o (yielded ops a.tmps) = true := by simp [Region.wanted, hgd]
  rw [if_pos hw]
  obtain ⟨v', w', hrun, h2, h3⟩ := run_app w o.type base v l hown u r hr hlen hbase
  unfold Oper.wp execOp
  simp only [ho, resolve, invoke, builtin, Sem.run_bind, Sem.run_pure, Result.andThen_ok, List.map_toArray, List.map_cons, List.map_nil, hs, hx, hrun]
  exact h v' w' h2 h3
def Long (L : List ByteArray) (k z : Nat) : Prop := (∀ x ∈ L.take k, x.size ≤ z) ∧ (z = 0 ∨ ∃ x ∈ L, x.size = z)
theorem Long.zero (L : List ByteArray) : Long L 0 0 := ⟨by simp, .inl rfl⟩
theorem Long.succ {L : List ByteArray} {k z : Nat} {x : ByteArray} (h : Long L k z) (hx : L[k]? = some x) : Long L (k + 1) (max z x.size) := by
  refine ⟨fun y hy => ?_, ?_⟩
  · rw [List.take_add_one, hx] at hy
    simp only [Option.toList_some, List.mem_append, List.mem_singleton] at hy
    rcases hy with hy | rfl
    · have := h.1 y hy; omega
    · omega
  · by_cases hz : x.size ≤ z
    · rw [Nat.max_eq_left hz]
      exact h.2
    · rw [Nat.max_eq_right (by omega)]
      exact .inr ⟨x, List.mem_of_getElem? hx, rfl⟩
set_option maxHeartbeats 8000000 in
theorem dictBytes (v : Value) (d : List ByteArray) (u : Value) (l : List Nat) (m : Int) (w : World) (hd : TextsIn w v d) (hn : Rd w w.heap.size u l) (m0 : -9223372036854775808 ≤ m) (m1 : m ≤ 9223372036854775807) :
    Calls Try.prog 8 #[v, u, .int .i64 m] w fun e w' => e = .returned (.bool true) ∧ Below w.heap.size w w' := by
  obtain ⟨L, hL⟩ : ∃ L, cutL d = L := ⟨_, rfl⟩
  have HC := Lib.hid (lCut v d w hd L hL)
  have hLl : L.length ≤ 60 := by rw [← hL]; exact cutL_len d
  have hLs : ∀ x ∈ L, x.size ≤ 200 := by rw [← hL]; exact cutL_size d
  have hll := hn.len
  unfold maxLen at hll
  obtain ⟨aa, ca, rfl, pa, qa, _⟩ := id hn
  unfold maxLen at qa
  obtain ⟨j, hj⟩ : ∃ j, min l.length 60 = j := ⟨_, rfl⟩
  have M := min_is l.length 60 j (by omega)
  obtain ⟨na, n2⟩ : j ≤ l.length ∧ j ≤ 60 := by omega
  have k1 : (j : Int) ≤ (ca : Int) := by omega
  have HA := Lib.hid (hn.takes rfl j na)
  have hnl : (l.take j).length ≤ 60 := by rw [List.length_take]; omega
  generalize l.take j = N at *
  have hbytes := enL_bound L hLl hLs
  have HLS := Lib.hid hLs
  clear hd hn hL hj hLs
  go_enter Try.func8, Try.ntmps8
  go_wp2_with fail
  refine HC.out.mono ?_
  rintro e w1 ⟨r1, rfl, o1, b1⟩
  have HP := Lib.hid (putL (.slice none 0 0) r1 [] L w1 (Rd.nil _ _) (RdT.of o1) (by omega) (Dc.enL L) (by simp) (by omega))
  obtain ⟨a1, c1, rfl, _⟩ := own_form o1
  have O1 := Lib.hid o1
  have B1 := Lib.hid b1
  clear o1 b1 HC
  go_wp2_with fail
  refine HP.out.mono ?_
  rintro e w2 ⟨r2, rfl, o2, b2⟩
  have HI := Lib.hid (fun w3 (hb : Below w2.heap.size w2 w3) => copyBytes r2 (Dc.enL L) w3 (own_rd o2 hb) (by omega))
  obtain ⟨a2, c2, rfl, _⟩ := o2.form1
  have B2 := Lib.hid (up B1.out b2)
  have O12 := Lib.hid (O1.out.later b2)
  clear o2 b2 HP O1 B1
  go_wp2_with fail
  go_region_held3 (fun _ => True) (trivial)
    ((first
      | (go_at_call 12; refine (HI.out _ (Below.refl _ _).drew).mono ?_; rintro e w3 ⟨r3, rfl, o3, b3⟩; have b3' : Below w2.heap.size w2 w3 := (by first | exact b3 | exact undrew b3); have B3 := Lib.hid b3'; have R3 := Lib.hid (HA.out.later (Nat.le_refl _) (up B2.out b3')); have O3 := Lib.hid (show Own w3 w2.heap.size r3 (Dc.enL L) from o3); have hs3 := B3.out.size; clear b3 b3' o3)
      | (refine step_appB rfl (.tmp 20) (.tmp 25) rfl w2.heap.size _ (Dc.enL L) rfl O3.out _ N rfl R3.out (by omega) hs3 ?_; intro v4 w4 o4 b4; have B4 := Lib.hid (B3.out.trans b4); have HG := Lib.hid (getL v4 (Dc.enL L ++ N) L.length m w4 o4.rd (by omega) (by omega) m0 m1); clear o4 b4 O3 R3)
      | (go_at_call 24; refine HG.out.mono ?_; rintro e w5 ⟨v5, rfl, o5, b5⟩; have B5 := Lib.hid (up B4.out b5); have O5 := Lib.hid o5; clear o5 b5)))
  all_goals
    obtain ⟨⟨T, K, E⟩, hx⟩ : ∃ q, Dc.get (Dc.enL L ++ N) L.length m = q := ⟨_, rfl⟩
    have HX := Lib.hid hx
    rw [hx] at O5 ⊢
    simp only at O5 ⊢
    obtain ⟨a5, c5, rfl, _⟩ := own_form O5.out
    have HR := Lib.hid (RdT.of (O12.out.later B5.out))
    clear hx
    go_wp2_with fail
    go_loopw [12, 13] (fun zv i wr => ∃ (k z : Nat), k ≤ L.length ∧ i = .int .i64 (k : Nat) ∧ zv = .int .i64 (z : Nat) ∧ z ≤ 200 ∧ Hid (Long L k z) ∧ Hid (Below w5.heap.size w5 wr)) (fun _ i _ => L.length - (intOf i).toNat)
    case atStart => exact ⟨0, 0, by omega, rfl, rfl, by omega, Lib.hid (Long.zero L), Lib.hid (Below.refl _ _)⟩
    case round =>
      obtain ⟨k, z, hk, rfl, rfl, hz, HZ, HB⟩ := hrel
      by_cases hlt : k < L.length
      · have hlt1 : (k : Int) < L.length := by omega
        obtain ⟨x, hx⟩ : ∃ x, L[k]? = some x := ⟨_, List.getElem?_eq_getElem hlt⟩
        obtain ⟨b, off, rfl, p0⟩ := rdT_cell HR.out HB.out hx
        have hxs := HLS.out x (List.mem_of_getElem? hx)
        have HZ2 := Lib.hid (HZ.out.succ hx)
        have hmx : ((max z x.size : Nat) : Int) = max (z : Int) (x.size : Int) := by omega
        clear hx HZ
        go_wp2_with fail
        go_roundw
        case rel => exact ⟨k + 1, max z x.size, by omega, by go_num, by rw [hmx], by omega, HZ2, HB⟩
        case measure => simp [intOf]; omega
      · obtain rfl : k = L.length := by omega
        have hlt1 : ¬ (L.length : Int) < L.length := by omega
        have hz1 := HZ.out.1
        have hz2 := HZ.out.2
        rw [List.take_length] at hz1
        by_cases hA : m < (z : Int) ∧ 0 < L.length
        · have hex : ∃ s ∈ L, m < (s.size : Int) := by
            rcases hz2 with rfl | ⟨x, hx, rfl⟩
            · exact ⟨L[0]'hA.2, List.getElem_mem _, by have := hA.1; omega⟩
            · exact ⟨x, hx, hA.1⟩
          have hg := Dc.get_long L N m (by omega) (fun s hs => by have := HLS.out s hs; omega) hex
          rw [HX.out] at hg
          injection hg with hg1 hg
          injection hg with hg2 hg3
          subst hg1 hg2 hg3
          have g1 := hA.1
          have g2 : (0 : Int) < L.length := by have := hA.2; omega
          clear hex HZ hz1 hz2 HX hA
          go_wp2_with fail
          refine (works _).mono ?_
          rintro e w9 ⟨rfl, b9⟩
          go_wp2_with fail
          go_ret
          exact ⟨rfl, up B2.out (up B5.out (up HB.out b9))⟩
        · have hall : ∀ s ∈ L, s.size < 2 ^ 64 ∧ (s.size : Int) ≤ m := fun s hs => by
            have h1 := HLS.out s hs
            have h2 := hz1 s hs
            have h3 : 0 < L.length := List.length_pos_of_mem hs
            omega
          have hg := Dc.get_put L N m (by omega) hall
          rw [HX.out] at hg
          injection hg with hg1 hg
          injection hg with hg2 hg3
          subst hg1 hg2 hg3
          have HE := Lib.hid (eqTexts _ _ T T _ (RdT.later (RdT.of O5.out) HB.out) (RdT.later HR.out HB.out) (by omega) true (by simp))
          clear hall HZ hz1 hz2 HX
          by_cases g1 : m < (z : Int)
          · have g2 : ¬ (0 : Int) < T.length := by omega
            go_wp2_with fail
            refine HE.out.mono ?_
            rintro e w6 ⟨rfl, b6⟩
            go_wp2_with fail
            refine (works _).mono ?_
            rintro e w9 ⟨rfl, b9⟩
            go_wp2_with fail
            go_ret
            exact ⟨rfl, up B2.out (up B5.out (up HB.out (up b6 b9)))⟩
          · go_wp2_with fail
            refine HE.out.mono ?_
            rintro e w6 ⟨rfl, b6⟩
            go_wp2_with fail
            refine (works _).mono ?_
            rintro e w9 ⟨rfl, b9⟩
            go_wp2_with fail
            go_ret
            exact ⟨rfl, up B2.out (up B5.out (up HB.out (up b6 b9)))⟩
end Go.Proofs.Ytenfjmdajlhfoaa
