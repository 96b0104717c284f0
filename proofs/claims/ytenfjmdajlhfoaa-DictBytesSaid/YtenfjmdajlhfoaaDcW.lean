/- Put: bytes of numbers, of texts, of lists. -/
import Derived.Test.YtenfjmdajlhfoaaDcJ
import Derived.Test.YtenfjmdajlhfoaaByt
import Derived.Lib.AppendStr
import Derived.Lib.Small
namespace Go.Proofs.Ytenfjmdajlhfoaa
open Go.RowKit
set_option linter.unusedVariables false
set_option maxRecDepth 100000

theorem own_empty (w : World) (base : Nat) (hb : base ≤ w.heap.size) : Own (w.alloc (.cells #[] 5)) base (.slice (some ⟨w.heap.size, 0, none⟩) 0 0) [] :=
  ⟨⟨rfl, .inr ⟨w.heap.size, 0, #[], rfl, hb, heap_alloc_new w _, Nat.le_refl _, by simp [maxLen], rfl, rfl⟩⟩, by simp⟩
theorem Own.form1 {w : World} {base : Nat} {v : Value} {l : List Nat} (h : Own w base v l) : ∃ a c, v = .slice a l.length c ∧ l.length ≤ c := by
  obtain ⟨⟨h0, h1⟩, hb⟩ := h
  rcases h1 with ⟨rfl, hn⟩ | ⟨g, cap, cur, rfl, _, _, hc, _⟩
  · exact ⟨none, 0, by rw [hn], by omega⟩
  · exact ⟨_, _, rfl, hc⟩
theorem rd_none (w : World) (B n c : Nat) (l : List Nat) (h : Rd w B (.slice none n c) l) : l = [] ∧ n = 0 ∧ c = 0 := by
  obtain ⟨a', c', e, h1, h2, h3, _⟩ := h
  injection e with e1 e2 e3
  have := h3 e1.symm
  subst e2 e3
  exact ⟨List.eq_nil_of_length_eq_zero (by omega), by omega, this⟩
set_option maxHeartbeats 400000 in
theorem cloneB (v : Value) (l : List Nat) (w : World) (h : Rd w w.heap.size v l) (hl : l.length ≤ 100000000) :
    Calls Try.prog 29 #[v] w fun e w' => ∃ r, e = .returned r ∧ Own w' w.heap.size r l ∧ Below w.heap.size w w' := by
  obtain ⟨a, c, rfl, h1, h2, -⟩ := id h
  have hq := Lib.run_eql_slice_nil (P := Try.prog) w 23 5 a l.length c 0 0 Try.underlying23
  cases a with
  | none =>
    obtain ⟨rfl, _, rfl⟩ := rd_none w _ _ _ _ h
    simp at hq
    go_enter Try.func29, Try.ntmps29
    go_wp2
    go_ret
    exact ⟨_, rfl, Own.nil _ _, Below.refl _ _⟩
  | some ad =>
    simp at hq
    go_enter Try.func29, Try.ntmps29
    go_wp2_with (at_builtin
                 refine wpList_app rfl (.tmp 5) (.tmp 6) rfl w.heap.size _ [] rfl (own_empty w _ (Nat.le_refl _)) _ l rfl (h.later (Nat.le_refl _) ((Below.refl _ _).alloc (Nat.le_refl _) _)) (by simp; omega) (by simp) ?_
                 intro v1 w1 hown1 hb1)
    go_ret
    exact ⟨v1, rfl, by simpa using hown1, ((Below.refl _ _).alloc (Nat.le_refl _) _).trans hb1⟩
theorem bytesOf (n : Nat) (w : World) (hn : n ≤ 1000000000) :
    Calls Try.prog 30 #[.int .i64 (n : Nat)] w fun e w' => ∃ r, e = .returned r ∧ Own w' w.heap.size r (Leb.enc n) ∧ Below w.heap.size w w' := by
  have HP := Lib.hid (put (.slice none 0 0) [] (n : Nat) w (Rd.nil _ _) (by simp) (by omega) (by omega))
  have h1 : (n : Int) ≤ 1000000000 := by omega
  go_enter Try.func30, Try.ntmps30
  go_wp2_with fail
  refine HP.out.mono ?_
  rintro e w' ⟨r, rfl, ho, hb⟩
  rw [Int.toNat_natCast, List.nil_append] at ho
  go_wp2_with fail
  go_ret
  exact ⟨r, rfl, ho, hb⟩
theorem cells_bl (s : ByteArray) : Lib.strCells s = vals (bl s) := by
  unfold Lib.strCells vals bl
  rw [List.map_map]
  rfl
/-- A text behind bytes. -/
theorem wpList_app_str {w : World} {ops : Array Oper} {rest : List Oper} {o : Oper} {a : Act} {Q : Exit → Act → World → Prop} (hgd : o.guard = none) (s x : Operand)
    (ho : o.op = .call { callee := .builtin .append, args := #[s, x], argTypes := #[23, 9] })
    (base : Nat) (v : Value) (l : List Nat) (hs : a.eval s = v) (hown : Own w base v l) (t : ByteArray) (hx : a.eval x = .string t)
    (hlen : l.length + t.size ≤ 1000000000) (hbase : base ≤ w.heap.size)
    (h : ∀ v' w', Own w' base v' (l ++ bl t) → Below base w w' → wpList Try.prog ops Q rest (a.put o.dst v') w') : wpList Try.prog ops Q (o :: rest) a w := by
  obtain ⟨i, hi, hz, hsz, hby⟩ := byte_parts
  refine Lib.wpList_append_own_string w hgd s x 23 9 ho base 5 i Try.underlying23 Try.underlying9 hi hz hsz hby v l.length (vals l) hs hown.1 t hx (by unfold maxLen; omega) (by omega) hbase ?_
  intro v' w' h1 h2 h3
  refine h v' w' ⟨?_, fun y hy => (List.mem_append.1 hy).elim (hown.2 y) (bl_byte t y)⟩ ((Below.refl _ _).grown h2 hbase (fun g hg => (hown.1.lt g hg).1))
  rw [List.length_append, bl_length, vals_append, ← cells_bl]
  exact h1
theorem own_rd {w : World} {base : Nat} {v : Value} {l : List Nat} (h : Own w base v l) {w' : World} (hb : Below w.heap.size w w') : Rd w' w'.heap.size v l := h.rd.later (Nat.le_refl _) hb
set_option maxHeartbeats 8000000 in
theorem putL (v u : Value) (b : List Nat) (l : List ByteArray) (w : World) (hb : Rd w w.heap.size v b) (hl : RdT w w.heap.size u l) (hl2 : l.length ≤ 1000000) (R : List Nat) (hR : b ++ Dc.enL l = R) (hlen : R.length ≤ 100000000) :
    Calls Try.prog 18 #[v, u] w fun e w' => ∃ r, e = .returned r ∧ Own w' w.heap.size r R ∧ Below w.heap.size w w' := by
  obtain ⟨⟨d, N⟩, hdN⟩ : ∃ x, Dc.spl [] [] l = x := ⟨_, rfl⟩
  have HS := Lib.hid (split u l w hl hl2 _ hdN)
  have hls := Dc.spl_len [] l
  have hnl := Dc.nums_lt l (by omega)
  have hR2 : (b ++ Leb.enc d.length) ++ (Dc.enD d ++ Dc.enN N) = R := by rw [← hR]; unfold Dc.enL; rw [hdN]; simp [List.append_assoc]
  rw [hdN] at hls hnl
  have hNb : ∀ x ∈ N, x ≤ 1000000 := by
    intro x hx
    obtain ⟨i, hi, rfl⟩ := List.getElem_of_mem hx
    have hil : i < l.length := by simp at hls; omega
    have h3 := (Dc.spl_get [] l i _ (List.getElem?_eq_getElem hil)).1
    rw [hdN, List.getElem?_eq_getElem hi] at h3
    injection h3 with h3
    simp only at h3
    rw [h3]
    have := Dc.idx_le d l[i]
    simp at hls
    omega
  have HNb := Lib.hid hNb
  have HR2 := Lib.hid hR2
  have HV := Lib.hid hb
  have hd1 : d.length ≤ 1000000 := by simp at hls; omega
  have hN1 : N.length ≤ 1000000 := by simp at hls; omega
  have hbl : b.length ≤ 100000000 := by rw [← hR, List.length_append] at hlen; omega
  obtain ⟨a, c, rfl, _⟩ := Gn.Rd.form hl
  clear hb hl hR hdN hls hnl hNb hR2
  go_enter Try.func18, Try.ntmps18
  go_wp2_with fail
  refine HS.out.mono ?_
  rintro e w1 ⟨dv, nv, rfl, hod, hon, hb1⟩
  have HC := Lib.hid (cloneB v b w1 (HV.out.later (Nat.le_refl _) hb1) hbl)
  have HOD := Lib.hid hod
  have HON := Lib.hid hon
  have HB1 := Lib.hid hb1
  obtain ⟨a1, c1, rfl, _⟩ := own_form hod
  obtain ⟨a2, c2, hv2, _⟩ := own_form hon
  rw [ofN_len] at hv2
  subst hv2
  clear hod hon hb1 HS HV
  go_wp2_with fail
  refine HC.out.mono ?_
  rintro e w2 ⟨r2, rfl, ho2, hb2⟩
  have HO2 := Lib.hid ho2
  have HB2 := Lib.hid hb2
  have HBO := Lib.hid (bytesOf d.length w2 (by omega))
  clear ho2 hb2 HC
  go_wp2_with fail
  refine HBO.out.mono ?_
  rintro e w3 ⟨r3, rfl, ho3, hb3⟩
  have HO3 := Lib.hid ho3
  have HO23 := Lib.hid (HO2.out.later hb3)
  have HB3 := Lib.hid (HB2.out.trans (hb3.mono HB2.out.size))
  have hle := Leb.enc_len d.length
  have hs13 := HB3.out.size
  clear ho3 hb3 HBO HB2
  go_wp2_with (at_builtin
               refine wpList_app rfl (.tmp 18) (.tmp 21) rfl w1.heap.size _ b rfl HO23.out _ (Leb.enc d.length) rfl HO3.out.rd (by omega) hs13 ?_
               intro v4 w4 ho4 hb4)
  have HB4 := Lib.hid (HB3.out.trans hb4)
  have HO4 := Lib.hid ho4
  have HS1 := Lib.hid HB1.out.size
  clear ho4 hb4 HB3 HO3 HO23 HO2
  go_loopw [7, 25] (fun rv i wr => ∃ (k : Nat) (W : List Nat), k ≤ d.length ∧ i = .int .i64 (k : Nat) ∧ Hid (W ++ (Dc.enD (d.drop k) ++ Dc.enN N) = R) ∧ Hid (Own wr w1.heap.size rv W) ∧ Hid (Below w1.heap.size w1 wr)) (fun _ i _ => d.length - (intOf i).toNat)
  case atStart => exact ⟨0, _, by omega, rfl, HR2, HO4, HB4⟩
  case round =>
    clear HR2 HO4 HB4
    obtain ⟨k, W, hk, rfl, HE, HO, HW⟩ := hrel
    by_cases hlt : k < d.length
    · have hlt1 : (k : Int) < d.length := by omega
      obtain ⟨x, hx⟩ : ∃ x, d[k]? = some x := ⟨_, List.getElem?_eq_getElem hlt⟩
      obtain ⟨bb, off, rfl, p0⟩ := rdT_cell (RdT.of HOD.out) HW.out hx
      have hE := HE.out
      rw [drop_at hx, Dc.enD_cons, Dc.enT] at hE
      have hl3 := congrArg List.length hE
      simp only [List.length_append, bl_length] at hl3
      have hE2 : Hid (W ++ Leb.enc x.size ++ bl x ++ (Dc.enD (d.drop (k + 1)) ++ Dc.enN N) = R) := Lib.hid (by rw [← hE]; simp [List.append_assoc])
      have hx1 : x.size ≤ 100000000 := by omega
      have hx2 : W.length + (Leb.enc x.size).length + x.size ≤ 100000000 := by omega
      have HBO := Lib.hid (fun w => bytesOf x.size w (by omega))
      clear hE hl3 hx HE
      go_wp2_with fail
      refine (HBO.out _).mono ?_
      rintro e w5 ⟨r5, rfl, ho5, hb5⟩
      have HO5 := Lib.hid ho5
      have HOW := Lib.hid (HO.out.later hb5)
      have HW5 := Lib.hid (HW.out.trans (hb5.mono HW.out.size))
      have hs5 := HW5.out.size
      clear ho5 hb5 HBO HO HW
      go_wp2_with (first
        | (at_builtin
           refine wpList_app rfl (.tmp 29) (.tmp 32) rfl w1.heap.size _ W rfl HOW.out _ (Leb.enc x.size) rfl HO5.out.rd (by omega) hs5 ?_
           intro v6 w6 ho6 hb6
           have HO6 := Lib.hid ho6
           have HW6 := Lib.hid (HW5.out.trans hb6)
           have hs6 := HW6.out.size
           clear ho6 hb6 HO5 HOW HW5)
        | (at_builtin
           refine wpList_app_str rfl (.tmp 34) (.tmp 35) rfl w1.heap.size _ (W ++ Leb.enc x.size) rfl HO6.out x rfl (by rw [List.length_append]; omega) hs6 ?_
           intro v7 w7 ho7 hb7
           have HO7 := Lib.hid ho7
           have HW7 := Lib.hid (HW6.out.trans hb7)
           clear ho7 hb7 HO6 HW6))
      go_roundw
      case rel => exact ⟨k + 1, _, by omega, by go_num, hE2, HO7, HW7⟩
      case measure => simp [intOf]; omega
    · obtain rfl : k = d.length := by omega
      have hlt1 : ¬ (d.length : Int) < d.length := by omega
      have HE0 : Hid (W ++ Dc.enN (N.drop 0) = R) := Lib.hid (by have := HE.out; rwa [List.drop_length] at this)
      have HNR := Lib.hid ((RdI.of HON.out))
      clear HE HON HOD
      go_wp2_with fail
      go_loopw [7, 40] (fun rv i wr => ∃ (k : Nat) (W : List Nat), k ≤ N.length ∧ i = .int .i64 (k : Nat) ∧ Hid (W ++ Dc.enN (N.drop k) = R) ∧ Hid (Own wr w1.heap.size rv W) ∧ Hid (Below w1.heap.size w1 wr)) (fun _ i _ => N.length - (intOf i).toNat)
      case atStart => exact ⟨0, _, by omega, rfl, HE0, HO, HW⟩
      case round =>
        clear HE0 HO HW
        obtain ⟨k, W, hk, rfl, HE, HO, HW⟩ := hrel
        by_cases hlt : k < N.length
        · have hlt1 : (k : Int) < N.length := by omega
          obtain ⟨x, hx⟩ : ∃ x, N[k]? = some x := ⟨_, List.getElem?_eq_getElem hlt⟩
          have hxi : (ofN N)[k]? = some (x : Int) := by unfold ofN; rw [List.getElem?_map, hx]; rfl
          obtain ⟨bb, off, rfl, p0⟩ := rdI_cell HNR.out HW.out hxi
          have hE := HE.out
          rw [drop_at hx, Dc.enN_cons] at hE
          have hl3 := congrArg List.length hE
          simp only [List.length_append] at hl3
          have hE2 : Hid (W ++ Leb.enc x ++ Dc.enN (N.drop (k + 1)) = R) := Lib.hid (by rw [← hE]; simp [List.append_assoc])
          have hx2 : W.length + (Leb.enc x).length ≤ 100000000 := by omega
          have HBO := Lib.hid (fun w => bytesOf x w (by have := HNb.out x (List.mem_of_getElem? hx); omega))
          clear hE hl3 hx hxi HE
          go_wp2_with fail
          refine (HBO.out _).mono ?_
          rintro e w5 ⟨r5, rfl, ho5, hb5⟩
          have HO5 := Lib.hid ho5
          have HOW := Lib.hid (HO.out.later hb5)
          have HW5 := Lib.hid (HW.out.trans (hb5.mono HW.out.size))
          have hs5 := HW5.out.size
          clear ho5 hb5 HBO HO HW
          go_wp2_with (at_builtin
                       refine wpList_app rfl (.tmp 44) (.tmp 46) rfl w1.heap.size _ W rfl HOW.out _ (Leb.enc x) rfl HO5.out.rd (by omega) hs5 ?_
                       intro v6 w6 ho6 hb6
                       have HO6 := Lib.hid ho6
                       have HW6 := Lib.hid (HW5.out.trans hb6)
                       clear ho6 hb6 HO5 HOW HW5)
          go_roundw
          case rel => exact ⟨k + 1, _, by omega, by go_num, hE2, HO6, HW6⟩
          case measure => simp [intOf]; omega
        · obtain rfl : k = N.length := by omega
          have hlt1 : ¬ (N.length : Int) < N.length := by omega
          have hE := HE.out
          rw [List.drop_length] at hE
          have hE3 : W = R := by rw [← hE]; simp [Dc.enN]
          subst hE3
          obtain ⟨a9, c9, rfl, _⟩ := HO.out.form1
          clear hE HE
          go_wp2_with fail
          go_ret
          exact ⟨_, rfl, Own.lower HO.out HS1.out, HB1.out.trans (HW.out.mono HS1.out)⟩
end Go.Proofs.Ytenfjmdajlhfoaa
