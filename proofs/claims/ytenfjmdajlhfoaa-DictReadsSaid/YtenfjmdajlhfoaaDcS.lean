/- The reference's Join, Put. -/
import Derived.Test.YtenfjmdajlhfoaaDcR
namespace Go.Proofs.Ytenfjmdajlhfoaa
open Go.RowKit
set_option linter.unusedVariables false
set_option maxRecDepth 100000

/-- Texts of numbers, if all are places. -/
def pk (D : List ByteArray) : List ByteArray → List Int → Option (List ByteArray)
  | T, [] => some T
  | T, x :: ns => if h : 0 ≤ x ∧ x < (D.length : Int) then pk D (T ++ [D[x.toNat]'(by omega)]) ns else none
theorem pk_yes (D T : List ByteArray) (x : Int) (ns : List Int) (n : Nat) (s : ByteArray) (hx : x = (n : Nat)) (hs : D[n]? = some s) : pk D T (x :: ns) = pk D (T ++ [s]) ns := by
  obtain ⟨h1, h2⟩ := List.getElem?_eq_some_iff.1 hs
  subst hx
  rw [pk, dif_pos (by omega)]
  simp [h2]
theorem pk_no (D T : List ByteArray) (x : Int) (ns : List Int) (h : ¬ (0 ≤ x ∧ x < (D.length : Int))) : pk D T (x :: ns) = none := by rw [pk, dif_neg h]
theorem jn_pk (D : List ByteArray) : ∀ (ns : List Int) (u : Nat) (T : List ByteArray) {u' : Nat} {T' : List ByteArray}, Dc.jn D u T ns = some (u', T') → pk D T ns = some T'
  | [], u, T, u', T', h => by simp [Dc.jn] at h; simp [pk, h.2]
  | x :: ns, u, T, u', T', h => by
    by_cases hx : 0 ≤ x ∧ x < (D.length : Int) ∧ x ≤ (u : Int)
    · obtain ⟨n, rfl⟩ := Int.eq_ofNat_of_zero_le hx.1
      have hs : D[n]? = some (D[n]'(by omega)) := List.getElem?_eq_getElem _
      rw [Dc.jn_yes D u T _ ns n _ rfl hs (by omega)] at h
      rw [pk_yes D T _ ns n _ rfl hs]
      exact jn_pk D ns _ _ h
    · rw [Dc.jn_no _ _ _ _ _ hx] at h; cases h
theorem joi_pk {D : List ByteArray} {ns : List Int} {T : List ByteArray} (h : Dc.joi D ns = some T) : pk D [] ns = some T := by
  unfold Dc.joi at h
  split at h
  · cases h
  · rename_i u T' h1
    split at h
    · cases h
    · injection h with h; subst h; exact jn_pk D ns 0 [] h1
theorem pk_len (D : List ByteArray) : ∀ (ns : List Int) (T : List ByteArray) {T' : List ByteArray}, pk D T ns = some T' → T'.length = T.length + ns.length
  | [], T, T', h => by simp [pk] at h; simp [h]
  | x :: ns, T, T', h => by
    by_cases hx : 0 ≤ x ∧ x < (D.length : Int)
    · rw [pk, dif_pos hx] at h
      rw [pk_len D ns _ h]; simp; omega
    · rw [pk_no _ _ _ _ hx] at h; cases h
theorem ofN_map (N : List Nat) : ofN N = N.map (fun (n : Nat) => (n : Int)) := rfl
set_option maxHeartbeats 8000000 in
theorem rjoin (v u : Value) (D : List ByteArray) (ns : List Int) (w : World) (hd : RdT w w.heap.size v D) (hn : RdI w w.heap.size u ns) (hD : D.length ≤ 1000000) (hnl : ns.length ≤ 1000000) (r : Option (List ByteArray)) (hr : JnIs D ns r) :
    Calls Try.prog 23 #[v, u] w (JnPost w r) := by
  have HR := Lib.hid hd
  have HI := Lib.hid hn
  have HJ := Lib.hid hr
  obtain ⟨a, c, rfl, _⟩ := Gn.Rd.form hd
  obtain ⟨a2, c2, rfl, _⟩ := Gn.Rd.form hn
  obtain ⟨R0, hR0⟩ : ∃ R0, pk D [] ns = R0 := ⟨_, rfl⟩
  have HR0 := Lib.hid hR0
  have HS : Hid (pk D [] (ns.drop 0) = R0) := Lib.hid hR0
  clear hd hn hr hR0
  go_enter Try.func23, Try.ntmps23
  go_wp2_with fail
  go_loopw [6, 7] (fun tv i wr => ∃ (k : Nat) (T : List ByteArray), k ≤ ns.length ∧ i = .int .i64 (k : Nat) ∧ Hid (T.length = k) ∧ Hid (pk D T (ns.drop k) = R0) ∧ Hid (OwnT wr w.heap.size tv T) ∧ Hid (Below w.heap.size w wr)) (fun _ i _ => ns.length - (intOf i).toNat)
  case atStart => exact ⟨0, [], by omega, rfl, Lib.hid rfl, HS, Lib.hid (Gn.Own.nil _ _), Lib.hid (Below.refl _ _)⟩
  case round =>
    clear HS
    obtain ⟨k, T, hk, rfl, HL, HS, HT, HW⟩ := hrel
    by_cases hlt : k < ns.length
    · have hlt1 : (k : Int) < ns.length := by omega
      obtain ⟨x, hx⟩ : ∃ x, ns[k]? = some x := ⟨_, List.getElem?_eq_getElem hlt⟩
      obtain ⟨b, off, rfl, p0⟩ := rdI_cell HI.out HW.out hx
      have hS := HS.out
      rw [drop_at hx] at hS
      by_cases hok : 0 ≤ x ∧ x < (D.length : Int)
      · obtain ⟨n, rfl⟩ := Int.eq_ofNat_of_zero_le hok.1
        have hnD : n < D.length := by omega
        have g1 : ¬ (n : Int) < 0 := by omega
        have g2 : ¬ (D.length : Int) ≤ (n : Int) := by omega
        have g3 : (n : Int) < D.length := by omega
        obtain ⟨y, hy⟩ : ∃ y, D[n]? = some y := ⟨_, List.getElem?_eq_getElem hnD⟩
        rw [pk_yes D T _ _ n y rfl hy] at hS
        have HS2 := Lib.hid hS
        obtain ⟨b2, off2, rfl, p1⟩ := rdT_cell HR.out HW.out hy
        have HL2 : Hid ((T ++ [y]).length = k + 1) := Lib.hid (by simp [HL.out])
        have hTl : T.length ≤ 1000000 := by rw [HL.out]; omega
        have hid3 := rdTx_one wr y
        clear hS HS HL hx hok hnD hy
        go_wp2_with (at_builtin
                     refine Gn.wpList_app txL txY rfl (.tmp 30) (.tmp 38) rfl w.heap.size _ T rfl (HT.out.later (up_new _ _)) _ [y] rfl hid3 (by simp; omega) (by rw [World.size_alloc]; have := HW.out.size; omega) ?_
                     intro v1 w4 ho4 hg4 hl4 hn4
                     have HW4 := Lib.hid ((HW.out.trans ((up_new wr (.cells #[.string y] 9)).mono HW.out.size)).trans (Gn.below_of_own (HT.out.later (up_new wr (.cells #[.string y] 9))) hg4 (by rw [World.size_alloc]; have := HW.out.size; omega)))
                     have HT4 := Lib.hid ho4
                     clear ho4 hg4 hl4 hn4 hid3 HT HW)
        go_roundw
        case rel => exact ⟨k + 1, _, by omega, by go_num, HL2, HS2, HT4, HW4⟩
        case measure => simp [intOf]; omega
      · rw [pk_no _ _ _ _ hok] at hS
        subst hS
        have hnone : r = none := HJ.out.none (fun h => by
          obtain ⟨T2, h2⟩ := h.2
          have := joi_pk h2
          rw [HR0.out] at this
          cases this)
        subst hnone
        clear HS HL hx HJ HR0
        by_cases g1 : x < 0
        · go_wp2_with fail
          try rw [Exit.noGoto_ret]
          go_ret2
          exact JnPost.no HW.out
        · have g2 : (D.length : Int) ≤ x := by omega
          go_wp2_with fail
          try rw [Exit.noGoto_ret]
          go_ret2
          exact JnPost.no HW.out
    · obtain rfl : k = ns.length := by omega
      have hlt1 : ¬ (ns.length : Int) < ns.length := by omega
      have hS := HS.out
      rw [List.drop_length] at hS
      have hpk : pk D [] ns = some T := by rw [HR0.out, ← hS]; rfl
      obtain ⟨⟨d, N⟩, hdN⟩ : ∃ x, Dc.spl [] [] T = x := ⟨_, rfl⟩
      have hls := Dc.spl_len [] T
      rw [hdN] at hls
      have hTl : T.length ≤ 1000000 := by rw [HL.out]; omega
      have hdl : d.length ≤ 1000000 := by simp at hls; omega
      have hNl : (ofN N).length ≤ 1000000 := by rw [ofN_len]; simp at hls; omega
      have HSP := Lib.hid (rsplit _ T wr (RdT.of HT.out) hTl _ hdN)
      have HRS := Lib.hid (show r = some T ↔ d = D ∧ ofN N = ns from ((HJ.out T).trans (Dc.joi_iff D ns T)).trans (by rw [hdN]; rfl))
      have HRN := Lib.hid (show ¬ (d = D ∧ ofN N = ns) → r = none from fun hn => HJ.out.none (fun ⟨h1, T2, h2⟩ => by
        have h3 := joi_pk h2
        rw [hpk] at h3
        injection h3 with h3
        subst h3
        have h4 := (Dc.joi_iff D ns T).1 ⟨h1, h2⟩
        rw [hdN] at h4
        exact hn h4))
      clear HS hS hpk hdN hls HJ HR0 HL
      go_wp2_with fail
      refine HSP.out.mono ?_
      rintro e w2 ⟨dv, nv, rfl, hod, hon, hb2⟩
      have HT2 := Lib.hid (HT.out.later hb2)
      have HW2 := Lib.hid (HW.out.trans (hb2.mono HW.out.size))
      have HOD := Lib.hid hod
      have HON := Lib.hid hon
      clear hod hon hb2 HSP HT HW
      have hRD : RdT w2 w2.heap.size (.slice a D.length c) D := Gn.Rd.more (Gn.Rd.below HR.out HW2.out (Nat.le_refl _)) HW2.out.size
      by_cases h1 : d = D
      · have HE := Lib.hid (eqTexts dv _ d D w2 (RdT.of HOD.out) hRD hdl true (by simp [h1]))
        clear hRD
        go_wp2_with fail
        refine HE.out.mono ?_
        rintro e w3 ⟨rfl, hb3⟩
        have HT3 := Lib.hid (HT2.out.later hb3)
        have HW3 := Lib.hid (HW2.out.trans (hb3.mono HW2.out.size))
        have hRI : RdI w3 w3.heap.size (.slice a2 ns.length c2) ns := Gn.Rd.more (Gn.Rd.below HI.out HW3.out (Nat.le_refl _)) HW3.out.size
        by_cases h2 : ofN N = ns
        · have HF := Lib.hid (eqInts nv _ (ofN N) ns w3 (RdI.of (HON.out.later hb3)) hRI hNl true (by simp [h2]))
          have hr := HRS.out.2 ⟨h1, h2⟩
          subst hr
          obtain ⟨at_, ct, rfl, _⟩ := own_form HT3.out
          clear hb3 hRI HE HRN HRS
          go_wp2_with fail
          refine HF.out.mono ?_
          rintro e w4 ⟨rfl, hb4⟩
          have HT4 := Lib.hid (HT3.out.later hb4)
          have HW4 := Lib.hid (HW3.out.trans (hb4.mono HW3.out.size))
          go_wp2_with fail
          go_ret2
          exact ⟨_, rfl, HT4.out, HW4.out⟩
        · have HF := Lib.hid (eqInts nv _ (ofN N) ns w3 (RdI.of (HON.out.later hb3)) hRI hNl false (by simp [h2]))
          have hr := HRN.out (fun h => h2 h.2)
          subst hr
          clear hb3 hRI HE HRN HRS
          go_wp2_with fail
          refine HF.out.mono ?_
          rintro e w4 ⟨rfl, hb4⟩
          have HW4 := Lib.hid (HW3.out.trans (hb4.mono HW3.out.size))
          go_wp2_with fail
          go_ret2
          exact JnPost.no HW4.out
      · have HE := Lib.hid (eqTexts dv _ d D w2 (RdT.of HOD.out) hRD hdl false (by simp [h1]))
        have hr := HRN.out (fun h => h1 h.1)
        subst hr
        clear hRD HRN HRS
        go_wp2_with fail
        refine HE.out.mono ?_
        rintro e w3 ⟨rfl, hb3⟩
        have HW3 := Lib.hid (HW2.out.trans (hb3.mono HW2.out.size))
        go_wp2_with fail
        go_ret2
        exact JnPost.no HW3.out
theorem step_app_str {w : World} {ops : Array Oper} {o : Oper} {a : Act} {K : Act → World → Prop} {Q : Exit → Act → World → Prop} {E : Prop} (hgd : o.guard = none) (s x : Operand)
    (ho : o.op = .call { callee := .builtin .append, args := #[s, x], argTypes := #[23, 9] })
    (base : Nat) (v : Value) (l : List Nat) (hs : a.eval s = v) (hown : Own w base v l) (t : ByteArray) (hx : a.eval x = .string t)
    (hlen : l.length + t.size ≤ 1000000000) (hbase : base ≤ w.heap.size)
    (h : ∀ v' w', Own w' base v' (l ++ bl t) → Below base w w' → K (a.put o.dst v') w') : if Region.wanted o (yielded ops a.tmps) = true then Oper.wp Try.prog o a w K Q else E := by
  have hw : Region.wanted o (yielded ops a.tmps) = true := by simp [Region.wanted, hgd]
  rw [if_pos hw]
  obtain ⟨i, hi, hz, hsz, hby⟩ := byte_parts
  obtain ⟨v', w', hr, h2, h3, h4⟩ := Lib.run_append_own_string (P := Try.prog) w base 23 9 o.type 5 i Try.underlying23 Try.underlying9 hi hz hsz hby v l.length (vals l) hown.1 t (by unfold maxLen; omega) (by omega) hbase
  unfold Oper.wp execOp
  simp only [ho, resolve, invoke, builtin, Sem.run_bind, Sem.run_pure, Result.andThen_ok, List.map_toArray, List.map_cons, List.map_nil, hs, hx, hr]
  refine h v' w' ⟨?_, fun y hy => (List.mem_append.1 hy).elim (hown.2 y) (bl_byte t y)⟩ ((Below.refl _ _).grown h3 hbase (fun g hg => (hown.1.lt g hg).1))
  rw [List.length_append, bl_length, vals_append, ← cells_bl]
  exact h2
set_option maxHeartbeats 8000000 in
theorem rputL (v u : Value) (b : List Nat) (l : List ByteArray) (w : World) (hb : Rd w w.heap.size v b) (hl : RdT w w.heap.size u l) (hl2 : l.length ≤ 1000000) (R : List Nat) (hR : b ++ Dc.enL l = R) (hlen : R.length ≤ 1000000) :
    Calls Try.prog 19 #[v, u] w fun e w' => ∃ r, e = .returned r ∧ Own w' w.heap.size r R ∧ Below w.heap.size w w' := by
  obtain ⟨⟨d, N⟩, hdN⟩ : ∃ x, Dc.spl [] [] l = x := ⟨_, rfl⟩
  have HS := Lib.hid (rsplit u l w hl hl2 _ hdN)
  have hls := Dc.spl_len [] l
  have hR2 : (b ++ Leb.enc d.length) ++ (Dc.enD d ++ Dc.enN N) = R := by rw [← hR]; unfold Dc.enL; rw [hdN]; simp [List.append_assoc]
  rw [hdN] at hls
  have hNb : ∀ x ∈ N, x ≤ 1000000 := by
    intro x hx
    obtain ⟨i, hi, rfl⟩ := List.getElem_of_mem hx
    have hil : i < l.length := by simp at hls; omega
    have h3 := (Dc.spl_get [] l i _ (List.getElem?_eq_getElem hil)).1
    rw [hdN, List.getElem?_eq_getElem hi] at h3
    injection h3 with h3
    simp only at h3
    rw [h3]
    have := Dc.idx_le d l[i]
    simp at hls
    omega
  have HNb := Lib.hid hNb
  have HR2 := Lib.hid hR2
  have HV := Lib.hid hb
  have hd1 : d.length ≤ 1000000 := by simp at hls; omega
  have hN1 : N.length ≤ 1000000 := by simp at hls; omega
  have hbl : b.length ≤ 1000000 := by rw [← hR, List.length_append] at hlen; omega
  obtain ⟨a, c, rfl, _⟩ := Gn.Rd.form hl
  clear hb hl hR hdN hls hNb hR2
  go_enter Try.func19, Try.ntmps19
  go_wp2_with fail
  refine HS.out.mono ?_
  rintro e w1 ⟨dv, nv, rfl, hod, hon, hb1⟩
  have HC := Lib.hid (rput v b (d.length : Nat) w1 (HV.out.later (Nat.le_refl _) hb1) hbl (by omega) (by omega))
  rw [Int.toNat_natCast] at HC
  have HOD := Lib.hid hod
  have HON := Lib.hid hon
  have HB1 := Lib.hid hb1
  obtain ⟨a1, c1, rfl, _⟩ := own_form hod
  obtain ⟨a2, c2, hv2, _⟩ := own_form hon
  rw [ofN_len] at hv2
  subst hv2
  have hwd := wrap_pos d.length (by omega)
  clear hod hon hb1 HS HV
  go_wp2_with fail
  refine HC.out.mono ?_
  rintro e w2 ⟨r2, rfl, ho2, hb2⟩
  have HO4 := Lib.hid ho2
  have HB4 := Lib.hid hb2
  have HS1 := Lib.hid HB1.out.size
  clear ho2 hb2 HC hwd
  go_wp2_with fail
  go_loopw [7, 8] (fun rv i wr => ∃ (k : Nat) (W : List Nat), k ≤ d.length ∧ i = .int .i64 (k : Nat) ∧ Hid (W ++ (Dc.enD (d.drop k) ++ Dc.enN N) = R) ∧ Hid (Own wr w1.heap.size rv W) ∧ Hid (Below w1.heap.size w1 wr)) (fun _ i _ => d.length - (intOf i).toNat)
  case atStart => exact ⟨0, _, by omega, rfl, HR2, HO4, HB4⟩
  case round =>
    clear HR2 HO4 HB4
    obtain ⟨k, W, hk, rfl, HE, HO, HW⟩ := hrel
    by_cases hlt : k < d.length
    · have hlt1 : (k : Int) < d.length := by omega
      obtain ⟨x, hx⟩ : ∃ x, d[k]? = some x := ⟨_, List.getElem?_eq_getElem hlt⟩
      obtain ⟨bb, off, rfl, p0⟩ := rdT_cell (RdT.of HOD.out) HW.out hx
      have HP := Lib.hid (fun w2 (hb : Below w1.heap.size w1 w2) => (show w2.cell? ⟨bb, off + k, none⟩ = some (.string x) from by
        obtain ⟨b', off', e', p'⟩ := rdT_cell (RdT.of HOD.out) hb hx
        injection e' with e'
        injection e' with e1 e2
        subst e1 e2
        exact p'))
      have hE := HE.out
      rw [drop_at hx, Dc.enD_cons, Dc.enT] at hE
      have hl3 := congrArg List.length hE
      simp only [List.length_append, bl_length] at hl3
      have hE2 : Hid (W ++ Leb.enc x.size ++ bl x ++ (Dc.enD (d.drop (k + 1)) ++ Dc.enN N) = R) := Lib.hid (by rw [← hE]; simp [List.append_assoc])
      have hx1 : x.size ≤ 1000000 := by omega
      have hx2 : W.length + (Leb.enc x.size).length + x.size ≤ 1000000 := by omega
      have HBO := Lib.hid (fun rv w3 (h : Rd w3 w3.heap.size rv W) => rput rv W (x.size : Nat) w3 h (by omega) (by omega) (by omega))
      simp only [Int.toNat_natCast] at HBO
      have HWS := Lib.hid HW.out.size
      have hwx := wrap_pos x.size (by omega)
      clear hE hl3 hx HE
      go_wp2_with fail
      go_region_held3 (fun w' => w'.cell? ⟨bb, off + k, none⟩ = some (.string x)) (first | exact p0 | exact p3 | exact p7)
        ((first
          | (go_at_call 31; refine (HBO.out _ _ (own_rd HO.out (Below.refl _ _).drew)).mono ?_; rintro e w5 ⟨r5, rfl, ho5, hb5⟩; have hb6 : Below wr.heap.size wr w5 := (by first | exact hb5 | exact undrew hb5); have HO5 := Lib.hid ho5; have HW5 := Lib.hid (HW.out.trans (hb6.mono HW.out.size)); have p3 := HP.out w5 HW5.out; have hs5 := HW5.out.size; have hs6 := HS1.out; clear ho5 hb5 hb6 HBO HO HW)
          | (refine step_app_str rfl (.tmp 33) (.tmp 37) rfl w1.heap.size _ (W ++ Leb.enc x.size) rfl (Own.lower HO5.out (show w1.heap.size ≤ _ by first | exact HWS.out | exact HW.out.size)) x rfl (by rw [List.length_append]; omega) hs5 ?_; intro v7 w7 ho7 hb7; have HO7 := Lib.hid ho7; have HW7 := Lib.hid (HW5.out.trans hb7); have p7 := HP.out w7 HW7.out; clear ho7 hb7 HO5 HW5)))
      go_wp2_with fail
      go_roundw
      case rel => exact ⟨k + 1, _, by omega, by go_num, hE2, HO7, HW7⟩
      case measure => simp [intOf]; omega
    · obtain rfl : k = d.length := by omega
      have hlt1 : ¬ (d.length : Int) < d.length := by omega
      have HE0 : Hid (W ++ Dc.enN (N.drop 0) = R) := Lib.hid (by have := HE.out; rwa [List.drop_length] at this)
      have HNR := Lib.hid ((RdI.of HON.out))
      clear HE HON HOD
      go_wp2_with fail
      go_loopw [7, 9] (fun rv i wr => ∃ (k : Nat) (W : List Nat), k ≤ N.length ∧ i = .int .i64 (k : Nat) ∧ Hid (W ++ Dc.enN (N.drop k) = R) ∧ Hid (Own wr w1.heap.size rv W) ∧ Hid (Below w1.heap.size w1 wr)) (fun _ i _ => N.length - (intOf i).toNat)
      case atStart => exact ⟨0, _, by omega, rfl, HE0, HO, HW⟩
      case round =>
        clear HE0 HO HW
        obtain ⟨k, W, hk, rfl, HE, HO, HW⟩ := hrel
        by_cases hlt : k < N.length
        · have hlt1 : (k : Int) < N.length := by omega
          obtain ⟨x, hx⟩ : ∃ x, N[k]? = some x := ⟨_, List.getElem?_eq_getElem hlt⟩
          have hxi : (ofN N)[k]? = some (x : Int) := by unfold ofN; rw [List.getElem?_map, hx]; rfl
          obtain ⟨bb, off, rfl, p0⟩ := rdI_cell HNR.out HW.out hxi
          have hE := HE.out
          rw [drop_at hx, Dc.enN_cons] at hE
          have hl3 := congrArg List.length hE
          simp only [List.length_append] at hl3
          have hE2 : Hid (W ++ Leb.enc x ++ Dc.enN (N.drop (k + 1)) = R) := Lib.hid (by rw [← hE]; simp [List.append_assoc])
          have hx1 : x ≤ 1000000 := HNb.out x (List.mem_of_getElem? hx)
          have HBO := Lib.hid (rput _ W (x : Nat) _ HO.out.rd (by omega) (by omega) (by omega))
          rw [Int.toNat_natCast] at HBO
          have hwx := wrap_pos x (by omega)
          clear hE hl3 hx hxi HE
          go_wp2_with fail
          refine HBO.out.mono ?_
          rintro e w5 ⟨r5, rfl, ho5, hb5⟩
          have HO5 := Lib.hid (Own.lower ho5 HW.out.size)
          have HW5 := Lib.hid (HW.out.trans (hb5.mono HW.out.size))
          clear ho5 hb5 HBO HO HW
          go_wp2_with fail
          go_roundw
          case rel => exact ⟨k + 1, _, by omega, by go_num, hE2, HO5, HW5⟩
          case measure => simp [intOf]; omega
        · obtain rfl : k = N.length := by omega
          have hlt1 : ¬ (N.length : Int) < N.length := by omega
          have hE := HE.out
          rw [List.drop_length] at hE
          have hE3 : W = R := by rw [← hE]; simp [Dc.enN]
          subst hE3
          obtain ⟨a9, c9, rfl, _⟩ := HO.out.form1
          clear hE HE
          go_wp2_with fail
          go_ret
          exact ⟨_, rfl, Own.lower HO.out HS1.out, HB1.out.trans (HW.out.mono HS1.out)⟩
end Go.Proofs.Ytenfjmdajlhfoaa
