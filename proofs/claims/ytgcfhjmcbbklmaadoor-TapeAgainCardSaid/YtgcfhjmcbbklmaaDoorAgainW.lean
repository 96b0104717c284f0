/- TapeAgain: the walk. -/
import Derived.Test.YtgcfhjmcbbklmaaDoorWorks
import Derived.Test.YtgcfhjmcbbklmaaDoorFew2
import Derived.Test.YtgcfhjmcbbklmaaDoorJoinF
import Derived.Test.YtgcfhjmcbbklmaaDoorRsorted
import Derived.Test.YtgcfhjmcbbklmaaDoorSlic
namespace Go.Proofs.YtgcfhjmcbbklmaaDoor
open Go.RowKit
set_option linter.unusedVariables false
set_option maxRecDepth 100000

theorem flat_ok {l : List Nd} (hl : ∀ x ∈ l, Nok x) {a : Nat} {F : Fo} (h : Tp.At l a F) : ∀ x ∈ Tp.flat F, Nok x := fun x hx => hl x (List.mem_of_mem_drop (h.subset hx))
theorem cut_ok {k n : Int} {s y : ByteArray} {c : Fo} (h : ∀ x ∈ Tp.flat (.node k y n s c .nil), Nok x) : ∀ x ∈ cutF k n s c, Nok x := by
  intro x hx
  unfold cutF at hx
  rw [Tp.flat_node] at hx h
  rcases List.mem_cons.1 hx with rfl | hx
  · have := h _ (List.mem_cons_self ..)
    exact ⟨this.1, Nat.zero_le _, this.2.2⟩
  · exact h x (List.mem_cons_of_mem _ hx)
theorem keys_le : ∀ F : Fo, (Tp.keys F).length ≤ Tp.sz F
  | .nil => by simp [Tp.keys]
  | .node k y n s c r => by
    have := keys_le r
    rw [Tp.sz_node]
    simp only [Tp.keys, List.length_cons]
    omega
theorem keys_small : ∀ F : Fo, (∀ x ∈ Tp.flat F, Nok x) → ∀ y ∈ Tp.keys F, y.size ≤ maxLen
  | .nil, _, y, h => by simp [Tp.keys] at h
  | .node k y' n s c r, hok, y, h => by
    rw [Tp.flat_node] at hok
    rcases List.mem_cons.1 h with rfl | h
    · exact (hok _ (List.mem_cons_self ..)).2.1
    · exact keys_small r (fun x hx => hok x (List.mem_cons_of_mem _ (List.mem_append_right _ hx))) y h
theorem dep_part (D : Fo) (k n : Int) (y s : ByteArray) (c R : Fo) : 1 + Tp.dep c ≤ Tp.dep (Tp.app D (.node k y n s c R)) := by
  rw [Tp.dep_app]; simp only [Tp.dep]; omega

set_option maxHeartbeats 40000000 in
theorem tapeAgain (v1 : Value) (l1 : List Nd) (W : World) (h1 : RdN W W.heap.size v1 l1) (ok1 : ∀ x ∈ l1, Nok x) (T : Tab W) :
    Calls Tryd.prog 6 #[v1] W fun e w' => e = .returned (.bool true) ∧ Below W.heap.size W w' := by
  have C1 := Lib.hid (few v1 l1 W h1 ok1)
  obtain ⟨A, hA⟩ : ∃ A, A = fewL l1 := ⟨_, rfl⟩
  have okA : ∀ x ∈ A, Nok x := by rw [hA]; exact fewL_ok l1 ok1
  have lA : A.length ≤ 60 := by rw [hA]; exact fewL_len l1
  have HT := Lib.hid T
  rw [← hA] at C1
  clear hA h1 ok1 T
  go_enter Tryd.func6, Tryd.ntmps6
  go_wp2_with fail
  ((with_reducible refine (C1.out).mono ?_); rintro e w1 ⟨t, rfl, ho1, b1⟩)
  have HB1 := Lib.hid b1
  have H1 := Lib.hid (Gn.Own.rd ndL ho1)
  replace HT := Lib.hid (HT.out.later b1)
  obtain ⟨n, hn⟩ : ∃ n, A.length = n := ⟨_, rfl⟩
  obtain ⟨ta, tc, rfl⟩ : ∃ a c, t = .slice a n c := form_n H1.out n hn
  have hn60 : n ≤ 60 := by omega
  have HN := Lib.hid hn
  have HOK := Lib.hid okA
  clear b1 ho1 C1 hn lA
  have K1 := Lib.hid (fun (wb : World) (hb : Below w1.heap.size w1 wb) (e : Int) (he : chk A = e) => check _ A wb (Gn.Rd.later H1.out hb) okA (HT.out.later hb) e he)
  have KW := Lib.hid (fun (wb : World) (hb : Below w1.heap.size w1 wb) => works wb (HT.out.later hb))
  by_cases h0 : chk A = 0
  · obtain ⟨F, hF, _⟩ := may_of h0
    have HF := Lib.hid hF
    have HC0 := Lib.hid h0
    have KP := Lib.hid (fun (wb : World) (hb : Below w1.heap.size w1 wb) (i : Int) (hi : -9223372036854775808 ≤ i ∧ i ≤ 9223372036854775807) (r : List Nd) (hr : PartIs A i r) => part _ A wb (Gn.Rd.later H1.out hb) okA (HT.out.later hb) i hi r hr)
    have K0 := Lib.hid (K1.out w1 (Below.refl _ _) 0 h0)
    clear hF h0 K1 okA
    go_wp2_with fail
    ((with_reducible refine (K0.out).mono ?_); rintro e w2 ⟨rfl, b⟩)
    have HX := Lib.hid b
    clear b K0
    go_wp2_with fail
    go_loopw [3] (fun i wx => ∃ (k : Nat), i = .int .i64 (k : Nat) ∧ k ≤ n ∧ Hid (Below w1.heap.size w1 wx)) (fun i _ => n - (intOf i).toNat)
    case atStart => exact ⟨0, by rfl, by omega, HX⟩
    case round =>
      obtain ⟨i, rfl, hi, HX⟩ := hrel
      by_cases hlt : i < n
      · have hlt1 : (i : Int) < n := by omega
        have hfz : Tp.sz F = n := by rw [← HN.out, ← HF.out.2.1.2.2]; rfl
        have hA0 : Tp.At A 0 F := by have := Tp.at_flat F; rw [HF.out.2.1.2.2] at this; exact this
        obtain ⟨k, y, nn, s, c, hAt, hg, hdp⟩ := sub_at F 0 i hA0 HF.out.2.1.2.1 (by rw [hfz]; exact hlt)
        rw [Nat.zero_add] at hAt
        have hAl := Tp.At.len hAt
        rw [Tp.sz_node, Tp.sz_nil, HN.out] at hAl
        have hcs : 1 + Tp.sz c ≤ n := by omega
        have hcd : 1 + Tp.dep c ≤ 64 := by have := HF.out.2.2; simp only [Tp.dep] at hdp; omega
        have hx := (Tp.at_node.1 hAt).1
        obtain ⟨X, hX⟩ : ∃ X, X = cutF k nn s c := ⟨_, rfl⟩
        have HXM : Hid (May X (.node k ⟨#[]⟩ nn s c .nil)) := Lib.hid (by rw [hX]; exact cut_may hg (by omega) hcd)
        have HXL : Hid (X.length = 1 + Tp.sz c) := Lib.hid (by rw [hX]; show Tp.sz _ = _; rw [Tp.sz_node, Tp.sz_nil]; omega)
        have okX : ∀ x ∈ X, Nok x := by rw [hX]; exact cut_ok (flat_ok HOK.out hAt)
        have CP := Lib.hid (KP.out wr HX.out (i : Int) (by omega) X (.inl ⟨i, k, y, nn, s, c, rfl, HC0.out, HF.out.1, hAt, hX⟩))
        have HGD := Lib.hid hg
        have HXE := Lib.hid hX
        obtain ⟨b0, off, rfl, _, _, _, _, x4⟩ := rdN_cells H1.out HX.out hx
        simp only at x4
        have HXI := Lib.hid hx
        clear hfz hA0 hAt hg hdp hX hAl x4 hx
        go_wp2_with fail
        ((with_reducible refine (CP.out).mono ?_); rintro e a1 ⟨x, rfl, ho, b⟩)
        have HA1 := Lib.hid (up HX.out b)
        have HRX := Lib.hid (Gn.Own.rd ndL ho)
        obtain ⟨m, hm⟩ : ∃ m, X.length = m := ⟨_, rfl⟩
        have hmc : m = 1 + Tp.sz c := by rw [← hm]; exact HXL.out
        obtain ⟨xa, xc, rfl⟩ : ∃ a c, x = .slice a m c := form_n HRX.out m hm
        obtain ⟨b0', off', e0, _, _, _, _, x4⟩ := rdN_cells H1.out HA1.out HXI.out
        obtain ⟨rfl, rfl⟩ : b0 = b0' ∧ off = off' := by injection e0 with e0; injection e0 with e1 e2; exact ⟨e1, e2⟩
        simp only at x4
        have q0 : ((m : Int) == 0) = false := by simp; omega
        have q1 : ((m : Int) != 1 + (Tp.sz c : Nat)) = false := by simp; omega
        have CC := Lib.hid (check _ X a1 HRX.out okX (HT.out.later HA1.out) 0 (may_chk HXM.out).1)
        have HMX := Lib.hid hm
        have HMC := Lib.hid hmc
        clear b ho CP e0 hm hmc
        go_wp2_with fail
        ((with_reducible refine (CC.out).mono ?_); rintro e a2 ⟨rfl, b⟩)
        have HA2 := Lib.hid (up HA1.out b)
        replace HRX := Lib.hid (Gn.Rd.later HRX.out b)
        have KK := Lib.hid (kids _ X a2 HRX.out okX (HT.out.later HA2.out) (plcs 1 c) (.inl ⟨k, ⟨#[]⟩, nn, s, c, HXM.out, rfl⟩))
        clear b CC q0 q1 x4
        go_wp2_with fail
        ((with_reducible refine (KK.out).mono ?_); rintro e a3 ⟨vk, rfl, hok, b⟩)
        have HA3 := Lib.hid (up HA2.out b)
        replace HRX := Lib.hid (Gn.Rd.later HRX.out b)
        have HRK := Lib.hid (Gn.Own.rd inL hok)
        obtain ⟨L, hL⟩ : ∃ L, (plcs 1 c).length = L := ⟨_, rfl⟩
        obtain ⟨ka, kc, rfl⟩ : ∃ a c, vk = .slice a L c := by
          obtain ⟨a, c', e', _⟩ := Gn.Rd.form HRK.out
          exact ⟨a, c', by rw [← hL]; exact e'⟩
        have hLk : (Tp.keys c).length = L := by rw [← plcs_keys 1 c]; exact hL
        have hL60 : L ≤ 60 := by have := keys_le c; omega
        have HLK := Lib.hid hLk
        have HTA := Lib.hid (HT.out.later HA3.out)
        have KPX := Lib.hid (fun (wb : World) (hb : Below a3.heap.size a3 wb) (i : Int) (hi : -9223372036854775808 ≤ i ∧ i ≤ 9223372036854775807) (r : List Nd) (hr : PartIs X i r) => part _ X wb (Gn.Rd.later HRX.out hb) okX (HTA.out.later hb) i hi r hr)
        have HOX := Lib.hid okX
        have hm60 : m ≤ 60 := by have := HMC.out; omega
        clear b hok KK hL hLk okX
        go_wp2_with fail
        go_loopw [6, 7, 8] (fun pv yv jv wx => ∃ (q : Nat) (D R : Fo) (ss : List Sl), jv = .int .i64 (q : Nat) ∧ q ≤ L ∧ Hid (c = Tp.app D R ∧ (Tp.keys D).length = q) ∧ Hid (OwnS wx a3.heap.size pv ss) ∧ Hid (EachO wx ss (cks D)) ∧ Hid (OwnT wx a3.heap.size yv (Tp.keys D)) ∧ Hid (Below a3.heap.size a3 wx)) (fun _ _ jv _ => L - (intOf jv).toNat)
        case atStart => exact ⟨0, .nil, c, [], by rfl, by omega, Lib.hid ⟨rfl, rfl⟩, Lib.hid (Gn.Own.nil _ _), Lib.hid (EachO.nil _), Lib.hid (Gn.Own.nil _ _), Lib.hid (Below.refl _ _)⟩
        case round =>
          obtain ⟨q, D, R, ss, rfl, hq, HD, HS, HE, HY, HB⟩ := hrel
          by_cases hlt : q < L
          · have hlt1 : (q : Int) < L := by omega
            obtain ⟨k2, y2, n2, s2, c2, r2, rfl⟩ := keys_split HD.out.1 q HD.out.2.symm (by rw [HLK.out]; exact hlt)
            obtain ⟨P, hP⟩ : ∃ P, 1 + Tp.sz D = P := ⟨_, rfl⟩
            have hsc : Tp.sz c = Tp.sz D + (1 + Tp.sz c2 + Tp.sz r2) := by rw [HD.out.1, Tp.sz_app, Tp.sz_node]
            have hPm : P < m := by have := HMC.out; omega
            have hP1 : ¬ ((P : Int) < 1) := by omega
            have hP2 : ¬ ((m : Int) ≤ P) := by omega
            have hpl : (plcs 1 c)[q]? = some (P : Int) := by
              have := plcs_at 1 D k2 y2 n2 s2 c2 r2
              rw [← HD.out.1, HD.out.2, hP] at this
              exact this
            obtain ⟨kb, ko, rfl, z⟩ := rdI_cell HRK.out HB.out hpl
            have hXA : Tp.At X P (.node k2 y2 n2 s2 c2 .nil) := by
              have h1 := Tp.at_flat (.node k ⟨#[]⟩ nn s c .nil)
              rw [HXM.out.2.1.2.2] at h1
              have h2 := (Tp.at_node.1 h1).2.1
              rw [HD.out.1, app_step, Tp.at_app, Tp.at_app] at h2
              have h3 := h2.1.2
              rw [Nat.zero_add, hP] at h3
              exact h3
            have hXx := (Tp.at_node.1 hXA).1
            obtain ⟨V, hV⟩ : ∃ V, V = cutF k2 n2 s2 c2 := ⟨_, rfl⟩
            have okV : ∀ x ∈ V, Nok x := by rw [hV]; exact cut_ok (flat_ok HOX.out hXA)
            have CP2 := Lib.hid (KPX.out wr HB.out (P : Int) (by omega) V (.inl ⟨P, k2, y2, n2, s2, c2, rfl, (may_chk HXM.out).1, HXM.out.1, hXA, hV⟩))
            have HVO := Lib.hid okV
            have HVE := Lib.hid hV
            have HXX := Lib.hid hXx
            have HPL := Lib.hid hpl
            have HSS : Hid (ss.length = q) := Lib.hid (by rw [HE.out.1, cks_len]; exact HD.out.2)
            clear hpl hsc hXA hXx hV okV hP
            go_wp2_with fail
            ((with_reducible refine (CP2.out).mono ?_); rintro e a4 ⟨v, rfl, ho, b⟩)
            obtain ⟨Z, hZ⟩ : ∃ Z, V.length = Z := ⟨_, rfl⟩
            obtain ⟨va, vc, rfl⟩ := form_n (Gn.Own.rd ndL ho) Z hZ
            have HS4 := Lib.hid (Gn.Own.later HS.out (b.trans (up_new a4 (.cells #[.slice va Z vc] 22) |>.mono b.size)))
            have HE4 := Lib.hid ((HE.out.later b).snoc (s := ⟨va, Z, vc⟩) (own_low ho) HVO.out |>.later (up_new a4 (.cells #[.slice va Z vc] 22)))
            have HY4 := Lib.hid (Gn.Own.later HY.out (b.trans (up_new a4 (.cells #[.slice va Z vc] 22) |>.mono b.size)))
            have HB4 := Lib.hid (HB.out.trans ((b.trans (up_new a4 (.cells #[.slice va Z vc] 22) |>.mono b.size)).mono HB.out.size))
            have HR4 := Lib.hid (rdSl_one a4 va Z vc)
            clear b ho CP2 z hZ
            go_wp2_with (at_builtin
                         first
                         | (refine Gn.wpList_app slL slY rfl (.tmp 89) (.tmp 96) rfl a3.heap.size _ ss rfl HS4.out _ [(⟨va, Z, vc⟩ : Sl)] rfl HR4.out (by rw [HSS.out]; simp; omega) HB4.out.size ?_
                            intro v5 w5 ho5 hg5 hl5 hn5
                            have HS5 := Lib.hid ho5
                            have HE5 := Lib.hid (EachO.kept HE4.out HS4.out node_ne_sl hg5)
                            have HY5 := Lib.hid (Gn.Own.kept HY4.out hg5 (own_apart HY4.out HS4.out tx_ne_sl))
                            have HB5 := Lib.hid (HB4.out.trans (Gn.below_of_own HS4.out hg5 HB4.out.size))
                            obtain ⟨kb', ko', e1, z⟩ := rdI_cell HRK.out HB5.out HPL.out
                            obtain ⟨rfl, rfl⟩ : kb = kb' ∧ ko = ko' := by injection e1 with e1; injection e1 with e2 e3; exact ⟨e2, e3⟩
                            obtain ⟨xb, xo, rfl, _, z1, _⟩ := rdN_cells HRX.out HB5.out HXX.out
                            have HS6 := Lib.hid (Gn.Own.later HS5.out (up_new w5 (.cells #[.string y2] 9)))
                            have HE6 := Lib.hid (HE5.out.later (up_new w5 (.cells #[.string y2] 9)))
                            have HY6 := Lib.hid (Gn.Own.later HY5.out (up_new w5 (.cells #[.string y2] 9)))
                            have HB6 := Lib.hid (HB5.out.trans ((up_new w5 (.cells #[.string y2] 9)).mono HB5.out.size))
                            have HR6 := Lib.hid (rdTx_one w5 y2)
                            simp only at z1
                            clear ho5 hg5 hl5 hn5 e1)
                         | (refine Gn.wpList_app txL txY rfl (.tmp 98) (.tmp 107) rfl a3.heap.size _ (Tp.keys D) rfl HY6.out _ [y2] rfl HR6.out (by rw [HD.out.2]; simp; omega) HB6.out.size ?_
                            intro v7 w7 ho7 hg7 hl7 hn7
                            have HY7 := Lib.hid ho7
                            have HS7 := Lib.hid (Gn.Own.kept HS6.out hg7 (own_apart HS6.out HY6.out sl_ne_tx))
                            have HE7 := Lib.hid (EachO.kept HE6.out HY6.out node_ne_tx hg7)
                            have HB7 := Lib.hid (HB6.out.trans (Gn.below_of_own HY6.out hg7 HB6.out.size))
                            clear ho7 hg7 hl7 hn7))
            go_roundw
            case rel =>
              refine ⟨q + 1, Tp.app D (.node k2 y2 n2 s2 c2 .nil), r2, ss ++ [(⟨va, Z, vc⟩ : Sl)], by go_num, by omega, Lib.hid ⟨by rw [← app_step]; exact HD.out.1, by rw [Tp.keys_app, List.length_append, HD.out.2]; rfl⟩, HS7, Lib.hid ?_, Lib.hid ?_, HB7⟩
              · rw [cks_app]
                have := HE7.out
                rw [HVE.out] at this
                exact this
              · rw [Tp.keys_app]; exact HY7.out
            case measure => simp [intOf]; omega
          · have hlt1 : ¬ (q : Int) < L := by omega
            have hDc : c = D := keys_done HD.out.1 (by rw [HD.out.2, HLK.out]; omega)
            subst hDc
            have hLc : q = L := by omega
            subst hLc
            obtain ⟨pa, pc, rfl, _⟩ := Gn.Rd.form (Gn.Own.rd slL HS.out)
            obtain ⟨ya, yc, rfl, _⟩ := Gn.Rd.form (Gn.Own.rd txL HY.out)
            have hLs : (cks c).length = q := by rw [cks_len]; exact HD.out.2
            have HLS := Lib.hid hLs
            have HTB := Lib.hid (HTA.out.later HB.out)
            have HRX2 := Lib.hid (Gn.Rd.later HRX.out HB.out)
            have hkind := HGD.out.1
            have hk17 := Tp.hf_kind hkind
            have hgC := HGD.out.2.2.2.1
            have hko := HGD.out.2.2.1
            obtain ⟨r1, x1, hr1⟩ := list_ex (cks c)
            have hks : ∀ y ∈ Tp.keys c, y.size ≤ maxLen := by
              refine keys_small c fun x hx => HOX.out x ?_
              rw [HXE.out]
              unfold cutF
              rw [Tp.flat_node]
              exact List.mem_cons_of_mem _ (List.mem_append_left _ hx)
            have hX0 : X[0]? = some ⟨k, ⟨#[]⟩, nn, s, 1 + (Tp.sz c : Nat)⟩ := by rw [HXE.out]; rfl
            obtain ⟨xb, xo, rfl, _⟩ := rdN_cells HRX2.out (Below.refl _ _) hX0
            have HX0 := Lib.hid (fun (wb : World) (hb : Below wr.heap.size wr wb) => (show wb.cell? ⟨xb, xo, none⟩ = some (.int .i64 k) by
              have := (skeep HRX2.out hX0 hb).2.1
              simpa using this))
            have HTOP := Lib.hid (up HA3.out HB.out)
            have HMM := Lib.hid (show X.length ≤ 1000000 by rw [HMX.out]; omega)
            have hm0 : (0 : Int) < (m : Nat) := by have := HMC.out; omega
            clear hX0
            rcases (show k = 7 ∨ k = 6 ∨ k ≤ 5 by omega) with rfl | rfl | hk5
            · have h0 : nn = 0 ∧ s = ⟨#[]⟩ := by
                unfold Tp.hf at hkind
                rcases hkind with ⟨h, _⟩ | ⟨h, _⟩ | ⟨h, _⟩ | ⟨_, h1, h2⟩
                · omega
                · omega
                · omega
                · exact ⟨h1, size0 h2⟩
              obtain ⟨rfl, rfl⟩ := h0
              have CL := Lib.hid (mkList _ ss (cks c) wr (HE.out.rdS HS.out) (by omega) HTB.out r1 x1 hr1)
              have CO := Lib.hid (fun (wb : World) (hb : Below wr.heap.size wr wb) => mkObj _ _ (Tp.keys c) ss (cks c) wb (Gn.Own.rd txL (Gn.Own.later HY.out hb)) ((HE.out.later hb).rdS (Gn.Own.later HS.out hb)) hks (by omega) (HTB.out.later hb) X 0 (.inr ⟨by rw [cks_len], join_is (.inr rfl) hgC hko (by omega) (by omega) (.inl ⟨by omega, hcd, rfl, HXE.out⟩)⟩))
              clear hr1 hkind hk17 hgC hko hks hLs
              go_wp2_with fail
              ((with_reducible refine (CL.out).mono ?_); rintro e a5 ⟨v5, rfl, ho5, b5⟩)
              have HA5 := Lib.hid b5
              have z0 := HX0.out a5 HA5.out
              clear b5 ho5 CL
              go_wp2_with fail
              ((with_reducible refine (CO.out _ HA5.out).mono ?_); rintro e a6 ⟨v6, rfl, ho6, b6⟩)
              have HA6 := Lib.hid (up HA5.out b6)
              have z0 := HX0.out a6 HA6.out
              have CE := Lib.hid (lawEq _ _ X X a6 (Gn.Rd.later HRX2.out HA6.out) (Gn.Own.rd ndL ho6) HMM.out true ⟨fun _ => rfl, fun _ => rfl⟩)
              clear b6 ho6 CO
              go_wp2_with fail
              ((with_reducible refine (CE.out).mono ?_); rintro e a7 ⟨rfl, b7⟩)
              have HA7 := Lib.hid (up HA6.out b7)
              have z0 := HX0.out a7 HA7.out
              have HEND := Lib.hid (up HTOP.out HA7.out)
              clear b7 CE
              go_wp2_with fail
              go_roundw
              case rel => exact ⟨i + 1, by go_num, by omega, HEND⟩
              case measure => simp [intOf]; omega
            · have h0 : nn = 0 ∧ s = ⟨#[]⟩ := by
                unfold Tp.hf at hkind
                rcases hkind with ⟨h, _⟩ | ⟨h, _⟩ | ⟨h, _⟩ | ⟨_, h1, h2⟩
                · omega
                · omega
                · omega
                · exact ⟨h1, size0 h2⟩
              obtain ⟨rfl, rfl⟩ := h0
              have CL := Lib.hid (mkList _ ss (cks c) wr (HE.out.rdS HS.out) (by omega) HTB.out X 0 (by unfold ListIs; rw [← rep_keys hko]; exact join_is (.inl rfl) hgC hko (by omega) (by omega) (.inl ⟨by omega, hcd, rfl, HXE.out⟩)))
              clear hr1 hkind hk17 hgC hko hks hLs
              go_wp2_with fail
              ((with_reducible refine (CL.out).mono ?_); rintro e a5 ⟨v5, rfl, ho5, b5⟩)
              have HA5 := Lib.hid b5
              have z0 := HX0.out a5 HA5.out
              have CE := Lib.hid (lawEq _ _ X X a5 (Gn.Rd.later HRX2.out HA5.out) (Gn.Own.rd ndL ho5) HMM.out true ⟨fun _ => rfl, fun _ => rfl⟩)
              clear b5 ho5 CL
              go_wp2_with fail
              ((with_reducible refine (CE.out).mono ?_); rintro e a7 ⟨rfl, b7⟩)
              have HA7 := Lib.hid (up HA5.out b7)
              have z0 := HX0.out a7 HA7.out
              have HEND := Lib.hid (up HTOP.out HA7.out)
              clear b7 CE
              go_wp2_with fail
              go_roundw
              case rel => exact ⟨i + 1, by go_num, by omega, HEND⟩
              case measure => simp [intOf]; omega
            · have hcn : c = .nil := HGD.out.2.1 hk5
              have hq0 : q = 0 := by rw [← HD.out.2, hcn]; rfl
              have CL := Lib.hid (mkList _ ss (cks c) wr (HE.out.rdS HS.out) (by omega) HTB.out r1 x1 hr1)
              have t1 : ((k : Int) == 7) = false := by simp; omega
              have t2 : ¬ ((6 : Int) ≤ k) := by omega
              have t3 : (k : Int) < 6 := by omega
              subst hq0
              clear hr1 hkind hk17 hgC hko hks hLs hcn
              go_wp2_with fail
              ((with_reducible refine (CL.out).mono ?_); rintro e a5 ⟨v5, rfl, ho5, b5⟩)
              have HA5 := Lib.hid b5
              have z0 := HX0.out a5 HA5.out
              have HEND := Lib.hid (up HTOP.out HA5.out)
              clear b5 ho5 CL
              go_wp2_with fail
              go_roundw
              case rel => exact ⟨i + 1, by go_num, by omega, HEND⟩
              case measure => simp [intOf]; omega
      · have hlt1 : ¬ (i : Int) < n := by omega
        go_wp2_with fail
        ((with_reducible refine (KW.out _ HX.out).mono ?_); rintro e a14 ⟨rfl, b⟩)
        have HX14 := Lib.hid (up HB1.out (up HX.out b))
        clear b
        go_wp2_with fail
        go_ret
        exact ⟨rfl, HX14.out⟩
  · have hce : ((chk A : Int) != 0) = true := by simpa using h0
    have hd0 := (chk_no h0).2
    have K3 := Lib.hid (fun (wb : World) (hb : Below w1.heap.size w1 wb) => kids _ A wb (Gn.Rd.later H1.out hb) okA (HT.out.later hb) [] (.inr ⟨h0, rfl⟩))
    have KS := Lib.hid (fun (wb : World) (hb : Below w1.heap.size w1 wb) => sorted _ A wb (Gn.Rd.later H1.out hb) okA (HT.out.later hb) [] (.inr ⟨h0, rfl⟩))
    have K5 := Lib.hid (fun (wb : World) (hb : Below w1.heap.size w1 wb) => deepOf _ A wb (Gn.Rd.later H1.out hb) okA (HT.out.later hb) 0 hd0)
    have K7 := Lib.hid (fun (wb : World) (hb : Below w1.heap.size w1 wb) => same _ _ A A wb (Gn.Rd.later H1.out hb) (Gn.Rd.later H1.out hb) okA okA (HT.out.later hb) [] [] (.inr ⟨h0, rfl⟩) (.inr ⟨h0, rfl⟩) false (by simp))
    have KC := Lib.hid (K1.out w1 (Below.refl _ _) _ rfl)
    clear h0 hd0 K1 okA
    generalize chk A = ce at *
    go_wp2_with fail
    ((with_reducible refine (KC.out).mono ?_); rintro e w2 ⟨rfl, b⟩)
    have HX := Lib.hid b
    clear b
    go_wp2_with fail
    ((with_reducible refine (K3.out _ HX.out).mono ?_); rintro e w3 ⟨vk, rfl, hok, b⟩)
    obtain ⟨ka, kc, rfl⟩ : ∃ a c, vk = .slice a 0 c := by
      obtain ⟨a, c, e', _⟩ := Gn.Rd.form (Gn.Own.rd inL hok)
      exact ⟨a, c, e'⟩
    have HX3 := Lib.hid (up HX.out b)
    clear b hok
    go_wp2_with fail
    ((with_reducible refine (KS.out _ HX3.out).mono ?_); rintro e w4 ⟨vs, rfl, hok, b⟩)
    obtain ⟨sa, sc, rfl⟩ := form_n (Gn.Own.rd ndL hok) 0 rfl
    have HX4 := Lib.hid (up HX3.out b)
    clear b hok
    go_wp2_with fail
    ((with_reducible refine (K5.out _ HX4.out).mono ?_); rintro e w5 ⟨rfl, b⟩)
    have HX5 := Lib.hid (up HX4.out b)
    clear b
    go_wp2_with fail
    ((with_reducible refine (K7.out _ HX5.out).mono ?_); rintro e w6 ⟨rfl, b⟩)
    have HX6 := Lib.hid (up HX5.out b)
    clear b
    go_wp2_with fail
    ((with_reducible refine (KW.out _ HX6.out).mono ?_); rintro e w7 ⟨rfl, b⟩)
    have HX7 := Lib.hid (up HB1.out (up HX6.out b))
    clear b
    go_wp2_with fail
    go_ret
    exact ⟨rfl, HX7.out⟩
end Go.Proofs.YtgcfhjmcbbklmaaDoor
