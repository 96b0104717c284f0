/- QEvSpW. -/
import Derived.Test.YtigcgkhcbmnboaaGreatDoorQEvSp
import Derived.Deep.DeepCutAuto
import Derived.Deep.CutBlock
/- The walk of EvolveSpoilt. -/
namespace Go.Proofs.YtigcgkhcbmnboaaGreatDoor
open Go.RowKit Go.Sort
set_option linter.unusedVariables false
set_option linter.unusedSimpArgs false
set_option maxRecDepth 100000

set_option maxHeartbeats 16000000 in
theorem evolveSpoilt (cv vv : Value) (C : List Int) (V : List Ev.V3) (at_ a0 a1 : Int) (w : World) (hs : SeedE w cv vv C V) (hat : Cl.I64 at_) (h0 : Cl.I64 a0) (h1 : Cl.I64 a1) (T : TA w) :
    Calls Tryz.prog 9 #[.agg #[cv, vv], .int .i64 at_, .agg #[.int .i64 a0, .int .i64 a1]] w fun e w' => e = .returned (.bool true) ∧ Below w.heap.size w w' := by
  obtain ⟨ca, cc, hcv, _⟩ := Gn.Rd.form hs.c
  obtain ⟨va, vc, hvv, _⟩ := Gn.Rd.form hs.v
  obtain ⟨cn, hcn⟩ : ∃ n, C.length = n := ⟨_, rfl⟩
  obtain ⟨vn, hvn⟩ : ∃ n, V.length = n := ⟨_, rfl⟩
  rw [hcn] at hcv
  rw [hvn] at hvv
  subst hcv hvv
  have b1 := box_new w (.cells #[.slice ca cn cc, .slice va vn vc] 45)
  have b2 := up_box b1 (.cells #[.int .i64 a0, .int .i64 a1] 39)
  have q1 := (Blk.new w 45 #[.slice ca cn cc, .slice va vn vc]).later (box_new _ (.cells #[.int .i64 a0, .int .i64 a1] 39))
  have q2 := Blk.new (w.alloc (.cells #[.slice ca cn cc, .slice va vn vc] 45)) 39 #[.int .i64 a0, .int .i64 a1]
  have HT1 := Lib.hid (T.later b2)
  have HI := Lib.hid (And.intro hat (And.intro h0 h1))
  have HQ11 := Lib.hid q1
  have HQ21 := Lib.hid q2
  have HB1 := Lib.hid b2
  have HC := Lib.hid (chainE (hs.later b2))
  clear hs T hat h0 h1 q1 q2 b1 b2 hcn hvn
  go_enter Tryz.func9, Tryz.ntmps9
  go_upto_region 1 with fail
  obtain ⟨g1, hg1⟩ : ∃ g, (w.alloc (.cells #[.slice ca cn cc, .slice va vn vc] 45)).heap.size = g := ⟨_, rfl⟩
  have hg1' : w.heap.size + 1 = g1 := by rw [← hg1]; simp
  rw [hg1] at HQ21
  simp only [hg1']
  generalize (w.alloc (.cells #[.slice ca cn cc, .slice va vn vc] 45)).alloc (.cells #[.int .i64 a0, .int .i64 a1] 39) = w1 at *
  clear hg1 hg1'
  have z0 := HQ11.out.cell 0
  have z1 := HQ11.out.cell 1
  simp only [List.getElem?_cons_succ, List.getElem?_cons_zero] at z0 z1
  go_wp2_with fail
  clear z0 z1
  ((with_reducible refine HC.out.mono ?_); rintro e w2 ⟨v, L, rfl, hr, hsm, b⟩)
  have hmk := Ev.mkch_is C V
  have hmy : ∀ (i : Nat) (a : Ev.Sm), (Ev.mkch C V)[i]? = some a → ∀ c, a.1[0]? = some c → c.nm = ⟨#[107]⟩ := fun i a h => Ev.mk_key C V h
  generalize Ev.mkch C V = l at *
  obtain ⟨sa, sc, rfl, _⟩ := Gn.Rd.form hr.rd
  have hll : l.length = L.length := by rw [← hsm, sms_len]
  obtain ⟨n, hL⟩ : ∃ n, L.length = n := ⟨_, rfl⟩
  have hn1 : 1 ≤ n := by have := hmk.len0; omega
  have hn8 : n ≤ 8 := by have := hmk.len; omega
  rw [hL] at hr ⊢
  have HR := Lib.hid hr
  have HB2 := Lib.hid (up HB1.out b)
  have HT2 := Lib.hid (HT1.out.later b)
  have HQ22 := Lib.hid (HQ21.out.later b)
  obtain ⟨i, hi⟩ := Int.eq_ofNat_of_zero_le (Int.emod_nonneg at_ (b := (n : Int)) (by omega))
  have hil : i < n := by have := Int.emod_lt_of_pos at_ (b := (n : Int)) (by omega); omega
  have HBA := Lib.hid (fun w1 => bringAtE at_ (n : Int) (i : Int) HI.out.1 (by omega) (by omega) hi w1)
  obtain ⟨xa, hxa⟩ : ∃ x, L[i]? = some x := ⟨_, List.getElem?_eq_getElem (by omega)⟩
  have hla := mk_at hsm hxa
  have hda := HR.out.el xa (List.mem_of_getElem? hxa)
  obtain ⟨h2e, h14, nn0, oo, hnn, hcl⟩ := hmk.all _ (List.mem_of_getElem? hla)
  have HKY := Lib.hid (hmy i xa.s hla)
  have HOA := Lib.hid (mk_ok hmk _ (List.mem_of_getElem? hla))
  obtain ⟨gb, off, hsa, p0, p1⟩ := rdS_cells HR.out (Below.refl _ _) (i := i) (x := xa) hxa
  subst hsa
  have hb3 := box_new w2 (.cells #[xa.v, xa.kv] 25)
  have HX8 := Lib.hid (Blk.new w2 25 #[xa.v, xa.kv])
  have HRX := Lib.hid (hda.later hb3)
  have HB3 := Lib.hid (up HB2.out hb3)
  have HT3 := Lib.hid (HT2.out.later hb3)
  have HQ23 := Lib.hid (HQ22.out.later hb3)
  clear HB1 HT1 HQ11 HQ21 HC hr hsm hmk hmy hll hL b hi HB2 HT2 HQ22 hda hxa hb3
  obtain ⟨xa1, xc1, xa2, xc2, ⟨cs, ks⟩⟩ := xa
  unfold Sx.v Sx.kv at *
  simp only at *
  subst h2e
  have HCL := Lib.hid hcl
  have HNN := Lib.hid hnn
  clear hcl hnn hla
  obtain ⟨cn, hcn⟩ : ∃ n, cs.length = n := ⟨_, rfl⟩
  go_wp2_with fail
  ((with_reducible refine (HBA.out w2).mono ?_); rintro e w' ⟨rfl, rfl⟩)
  go_wp2_with fail
  obtain ⟨w3, hw3⟩ : ∃ u, w2.alloc (.cells #[.slice xa1 cn xc1, .slice xa2 1 xc2] 25) = u := ⟨_, rfl⟩
  rw [hcn] at HRX HX8 HT3 HB3 HQ23
  simp only [List.length_singleton] at HRX HX8 HT3 HB3 HQ23
  rw [hw3] at HRX HX8 HT3 HB3 HQ23 ⊢
  have hrx := HRX.out
  have e1 : (Sx.v ⟨xa1, xc1, xa2, xc2, (cs, [0])⟩) = .slice xa1 cn xc1 := by unfold Sx.v; rw [← hcn]
  have e2 : (Sx.kv ⟨xa1, xc1, xa2, xc2, (cs, [0])⟩) = .slice xa2 1 xc2 := rfl
  have hrc := hrx.c
  have hrk := hrx.k
  rw [e1] at hrc
  rw [e2] at hrk
  simp only at hrc hrk
  have HCP := Lib.hid (cCopyS _ _ cs [0] w3 hrc hrk (by omega) (by simp))
  have hg8 : w2.heap.size < w3.heap.size := HX8.out.lt
  obtain ⟨g8, hg8e⟩ : ∃ g, w2.heap.size = g := ⟨_, rfl⟩
  rw [hg8e] at HX8 hg8 ⊢
  clear hrx e1 e2 hrc hrk p0 p1 HR HBA hw3 hg8e
  ((with_reducible refine HCP.out.mono ?_); rintro e w4 ⟨bv, bkv, rfl, ho, hi, b⟩)
  have HLT : Hid ((∀ q, bv.ownBlock = some q → q < w4.heap.size) ∧ (∀ q, bkv.ownBlock = some q → q < w4.heap.size)) := Lib.hid ⟨fun q hq => (ho.lt q hq).2, fun q hq => (hi.lt q hq).2⟩
  have hb5 := box_new w4 (.cells #[bv, bkv] 25)
  have HV := Lib.hid (Blk.new w4 25 #[bv, bkv])
  have HO := Lib.hid (Gn.Own.later ho hb5)
  have HOI := Lib.hid (Gn.Own.later hi hb5)
  have HB4 := Lib.hid b
  have HB5 := Lib.hid (up b hb5)
  have HX5 := Lib.hid ((HX8.out.later b).later hb5)
  have HQ25 := Lib.hid ((HQ23.out.later b).later hb5)
  obtain ⟨ya, yc, hbv, _⟩ := Gn.Rd.form (RdK.of ho)
  obtain ⟨za, zc, hbk, _⟩ := Gn.Rd.form (RdI.of hi)
  rw [hcn] at hbv
  simp only [List.length_singleton] at hbk
  subst hbv hbk
  obtain ⟨gy, rfl⟩ : ∃ q, ya = some ⟨q, 0, none⟩ := by
    rcases ho.2 with ⟨h1, _⟩ | ⟨q, cap, cur, h1, _⟩
    · injection h1 with _ h2 _; obtain ⟨c0, t, e0, _⟩ := HCL.out.hd; rw [e0] at hcn; simp at hcn; omega
    · injection h1 with h2 _ _; exact ⟨q, h2⟩
  clear b ho hi HCP hb5
  obtain ⟨g9, hg9⟩ : ∃ g, w4.heap.size = g := ⟨_, rfl⟩
  obtain ⟨w5, hw5⟩ : ∃ u, w4.alloc (.cells #[.slice (some ⟨gy, 0, none⟩) cn yc, .slice za 1 zc] 25) = u := ⟨_, rfl⟩
  rw [hw5] at HV HO HOI HB5 HX5 HQ25
  rw [hg9] at HV HLT
  have hcn1 : 1 ≤ cn := by obtain ⟨c0, t, e0, _⟩ := HCL.out.hd; rw [e0] at hcn; simp at hcn; omega
  obtain ⟨k, hk⟩ := Int.eq_ofNat_of_zero_le (Int.emod_nonneg a1 (b := (cn : Int)) (by omega))
  have hkl : k < cn := by have := Int.emod_lt_of_pos a1 (b := (cn : Int)) (by omega); omega
  have HBK := Lib.hid (fun w1 => bringAtE a1 (cn : Int) (k : Int) HI.out.2.2 (by omega) (by omega) hk w1)
  obtain ⟨m, hm⟩ := Int.eq_ofNat_of_zero_le (Int.emod_nonneg a0 (b := (6 : Int)) (by omega))
  have hml : m < 6 := by have := Int.emod_lt_of_pos a0 (b := (6 : Int)) (by omega); omega
  have HBM := Lib.hid (fun w1 => bringAtE a0 6 (m : Int) HI.out.2.1 (by omega) (by omega) hm w1)
  clear hk hm HI
  obtain ⟨⟨xi, xm, xk, xu, ⟨xd, xn, xs⟩⟩, hx⟩ : ∃ c, cs[k]? = some c := ⟨_, List.getElem?_eq_getElem (by omega)⟩
  have HCX := Lib.hid hx
  obtain ⟨gb', off', hgo, c0, c1, c2, c3, c4, c5, c6⟩ := rdK_cells (RdK.of HO.out) (Below.refl _ _) hx
  injection hgo with hgo
  injection hgo with hgo1 hgo2 _
  subst hgo1 hgo2
  simp only [Nat.zero_add] at c0 c1 c2 c3 c4 c5 c6
  have HCN := Lib.hid hcn
  have x0 := HX5.out.cell 0
  have x1 := HX5.out.cell 1
  have y0 := HV.out.cell 0
  have y1 := HV.out.cell 1
  have z0 := HQ25.out.cell 0
  have z1 := HQ25.out.cell 1
  simp only [List.getElem?_cons_succ, List.getElem?_cons_zero] at x0 x1 y0 y1 z0 z1
  clear hx
  go_upto_region 4 with fail
  have HG9 := Lib.hid hg9
  clear hg9 hw5
  go_wp2_with fail
  ((with_reducible refine (HBK.out _).mono ?_); rintro e w' ⟨rfl, rfl⟩)
  have hb6 := box_new w5 (.cells #[.int .i64 xi, .string xm, .int .i64 xk, .bool xu, .bool xd, .int .i64 xn, .string xs] 63)
  have HS0 : Hid (w3.heap.size ≤ g9) := Lib.hid (by have := HB4.out.size; have := HG9.out; omega)
  have HSB : Hid (SB w3 w3.heap.size g9 w5.heap.size cs [0] ⟨xi, xm, xk, xu, ⟨xd, xn, xs⟩⟩ (.slice (some ⟨gy, 0, none⟩) cn yc) (.slice za 1 zc) (w5.alloc (.cells #[.int .i64 xi, .string xm, .int .i64 xk, .bool xu, .bool xd, .int .i64 xn, .string xs] 63))) :=
    Lib.hid ⟨HV.out.later hb6, Blk.new w5 63 #[.int .i64 xi, .string xm, .int .i64 xk, .bool xu, .bool xd, .int .i64 xn, .string xs], Gn.Own.later HO.out hb6, Gn.Own.later HOI.out hb6, up HB5.out hb6, Nat.le_refl _, HS0.out, HV.out.lt,
      ⟨fun e => by have := HLT.out.1 _ e; have := HG9.out; omega, fun e => by have := HLT.out.1 _ e; have := HG9.out; have := HV.out.lt; omega⟩, ⟨fun e => by have := HLT.out.2 _ e; have := HG9.out; omega, fun e => by have := HLT.out.2 _ e; have := HG9.out; have := HV.out.lt; omega⟩⟩
  have z2 := (HQ25.out.later hb6).cell 0
  simp only [List.getElem?_cons_succ, List.getElem?_cons_zero] at z2
  clear hb6
  go_wp2_with fail
  ((with_reducible refine (HBM.out _).mono ?_); rintro e w' ⟨rfl, rfl⟩)
  clear x0 x1 y0 y1 z0 z1 z2 c0 c1 c2 c3 c4 c5 c6 HV HO HOI HB5 HB4 HLT HS0 HBK HBM HX5 HQ25 HQ23
  obtain ⟨gc, hgc⟩ : ∃ g, w5.heap.size = g := ⟨_, rfl⟩
  obtain ⟨w6, hw6⟩ : ∃ u, w5.alloc (.cells #[.int .i64 xi, .string xm, .int .i64 xk, .bool xu, .bool xd, .int .i64 xn, .string xs] 63) = u := ⟨_, rfl⟩
  rw [hw6, hgc] at HSB
  simp only [hw6, hgc]
  clear hw6 hgc
  have HKO := Lib.hid (HOA.out.k _ (List.mem_of_getElem? HCX.out))
  go_upto_block 0 with fail
  go_cut [] (fun wx => Hid (SWE w3 w3.heap.size g9 gc k (cs, [0]) wx))
  case first =>
    have hm6 : m = 0 ∨ m = 1 ∨ m = 2 ∨ m = 3 ∨ m = 4 ∨ m = 5 := by omega
    rcases hm6 with rfl | rfl | rfl | rfl | rfl | rfl
    · skip
      have v0 := HSB.out.cb.cell 0
      have f0 := HSB.out.cb.frozen 0
      have v1 := HSB.out.cb.cell 1
      have f1 := HSB.out.cb.frozen 1
      have v2 := HSB.out.cb.cell 2
      have f2 := HSB.out.cb.frozen 2
      have v3 := HSB.out.cb.cell 3
      have f3 := HSB.out.cb.frozen 3
      have v4 := HSB.out.cb.cell 4
      have f4 := HSB.out.cb.frozen 4
      have v5 := HSB.out.cb.cell 5
      have f5 := HSB.out.cb.frozen 5
      have v6 := HSB.out.cb.cell 6
      have f6 := HSB.out.cb.frozen 6
      have s0 := HSB.out.s.cell 0
      have sf0 := HSB.out.s.frozen 0
      have s1 := HSB.out.s.cell 1
      have sf1 := HSB.out.s.frozen 1
      have r8 := HX8.out.later HSB.out.b
      have x0 := r8.cell 0
      have x1 := r8.cell 1
      clear r8
      simp only [List.getElem?_cons_succ, List.getElem?_cons_zero] at v0 v1 v2 v3 v4 v5 v6 s0 s1 x0 x1
      go_wp2_with fail
      go_meet
      exact Lib.hid ⟨[0], ⟨xi, ⟨#[111, 116, 104, 101, 114]⟩, xk, xu, ⟨xd, xn, xs⟩⟩, _, _, HSB.out.col 1 (.string ⟨#[111, 116, 104, 101, 114]⟩) ⟨xi, ⟨#[111, 116, 104, 101, 114]⟩, xk, xu, ⟨xd, xn, xs⟩⟩ rfl, HCL.out.sp0 HNN.out h14 HCX.out, smok_set HOA.out ⟨HKO.out.id, HKO.out.k, by show (⟨#[111, 116, 104, 101, 114]⟩ : ByteArray).size ≤ 1000000; decide, HKO.out.n, HKO.out.s⟩ (.inl rfl)⟩
    · skip
      have hn01 : xn = 0 ∨ xn = 1 := by have := (HCL.out.at HCX.out).n0; simp only at this; omega
      obtain ⟨bx, ox, hxx, _, _, _, _, w4', _, _⟩ := rdK_cells HRX.out.c HSB.out.b HCX.out
      have hxx : xa1 = some ⟨bx, ox, none⟩ := hxx
      subst hxx
      have hbx : bx ≠ gc := by
        obtain ⟨bx', ox', hxx, w5', _⟩ := rdK_cells HRX.out.c (Below.refl _ _) HCX.out
        injection hxx with hxx
        injection hxx with hxx _ _
        subst hxx
        have := cell_lt w5'
        have := HSB.out.hg
        have := HSB.out.hgc
        simp only at *
        omega
      have hbx2 : gc ≠ bx := fun e => hbx e.symm
      have v0 := HSB.out.cb.cell 0
      have f0 := HSB.out.cb.frozen 0
      have v1 := HSB.out.cb.cell 1
      have f1 := HSB.out.cb.frozen 1
      have v2 := HSB.out.cb.cell 2
      have f2 := HSB.out.cb.frozen 2
      have v3 := HSB.out.cb.cell 3
      have f3 := HSB.out.cb.frozen 3
      have v4 := HSB.out.cb.cell 4
      have f4 := HSB.out.cb.frozen 4
      have v5 := HSB.out.cb.cell 5
      have f5 := HSB.out.cb.frozen 5
      have v6 := HSB.out.cb.cell 6
      have f6 := HSB.out.cb.frozen 6
      have s0 := HSB.out.s.cell 0
      have sf0 := HSB.out.s.frozen 0
      have s1 := HSB.out.s.cell 1
      have sf1 := HSB.out.s.frozen 1
      have r8 := HX8.out.later HSB.out.b
      have x0 := r8.cell 0
      have x1 := r8.cell 1
      clear r8
      simp only [List.getElem?_cons_succ, List.getElem?_cons_zero] at v0 v1 v2 v3 v4 v5 v6 s0 s1 x0 x1
      rcases hn01 with rfl | rfl <;> cases xu <;> cases xd
      · have HS7 := Lib.hid (((((((HSB.out.col 0 (.int .i64 xi) ⟨xi, xm, xk, false, ⟨false, 0, xs⟩⟩ rfl).col 1 (.string xm) ⟨xi, xm, xk, false, ⟨false, 0, xs⟩⟩ rfl).col 2 (.int .i64 1) ⟨xi, xm, 1, false, ⟨false, 0, xs⟩⟩ rfl).col 3 (.bool false) ⟨xi, xm, 1, false, ⟨false, 0, xs⟩⟩ rfl).col 4 (.bool false) ⟨xi, xm, 1, false, ⟨false, 0, xs⟩⟩ rfl).col 5 (.int .i64 1) ⟨xi, xm, 1, false, ⟨false, 1, xs⟩⟩ rfl).col 6 (.string ⟨#[]⟩) ⟨xi, xm, 1, false, ⟨false, 1, ⟨#[]⟩⟩⟩ rfl)
        go_upto_region 18 with fail
        obtain ⟨W7, hW7⟩ : ∃ u, (((((((w6.setCell ⟨gc, 0, none⟩ (.int .i64 xi)).setCell ⟨gc, 1, none⟩ (.string xm)).setCell ⟨gc, 2, none⟩ (.int .i64 1)).setCell ⟨gc, 3, none⟩ (.bool false)).setCell ⟨gc, 4, none⟩ (.bool false)).setCell ⟨gc, 5, none⟩ (.int .i64 1)).setCell ⟨gc, 6, none⟩ (.string ⟨#[]⟩)) = u := ⟨_, rfl⟩
        rw [hW7] at HS7 ⊢
        clear hW7 v0 v1 v2 v3 v4 v5 v6 f0 f1 f2 f3 f4 f5 f6 s0 s1 sf0 sf1 x0 x1
        have v0 := HS7.out.cb.cell 0
        have f0 := HS7.out.cb.frozen 0
        have v1 := HS7.out.cb.cell 1
        have f1 := HS7.out.cb.frozen 1
        have v2 := HS7.out.cb.cell 2
        have f2 := HS7.out.cb.frozen 2
        have v3 := HS7.out.cb.cell 3
        have f3 := HS7.out.cb.frozen 3
        have v4 := HS7.out.cb.cell 4
        have f4 := HS7.out.cb.frozen 4
        have v5 := HS7.out.cb.cell 5
        have f5 := HS7.out.cb.frozen 5
        have v6 := HS7.out.cb.cell 6
        have f6 := HS7.out.cb.frozen 6
        have s0 := HS7.out.s.cell 0
        have sf0 := HS7.out.s.frozen 0
        have s1 := HS7.out.s.cell 1
        have sf1 := HS7.out.s.frozen 1
        have r8 := HX8.out.later HS7.out.b
        have x0 := r8.cell 0
        have x1 := r8.cell 1
        clear r8
        simp only [List.getElem?_cons_succ, List.getElem?_cons_zero] at v0 v1 v2 v3 v4 v5 v6 s0 s1 x0 x1
        obtain ⟨bx', ox', hxx, _, _, _, _, y4', _, _⟩ := rdK_cells HRX.out.c HS7.out.b HCX.out
        have hxx : some (⟨bx, ox, none⟩ : Addr) = some ⟨bx', ox', none⟩ := hxx
        injection hxx with hxx
        injection hxx with hx1 hx2 _
        subst hx1 hx2
        simp only at y4'
        go_wp2_with fail
        go_meet
        exact Lib.hid ⟨[0], ⟨xi, xm, 1, false, ⟨false, 1, ⟨#[]⟩⟩⟩, _, _, HS7.out.col 4 (.bool false) ⟨xi, xm, 1, false, ⟨false, 1, ⟨#[]⟩⟩⟩ rfl, HCL.out.sp1 HNN.out h14 HCX.out ⟨false, 1, ⟨#[]⟩⟩ (by first | rfl | decide), smok_set HOA.out ⟨HKO.out.id, ⟨by show (-9223372036854775808 : Int) ≤ 1; decide, by show (1 : Int) ≤ 9223372036854775807; decide⟩, HKO.out.nm, ⟨by show (-9223372036854775808 : Int) ≤ 1; decide, by show (1 : Int) ≤ 9223372036854775807; decide⟩, by show (⟨#[]⟩ : ByteArray).size ≤ 1000000; decide⟩ (.inl rfl)⟩
      · have HS7 := Lib.hid (((((((HSB.out.col 0 (.int .i64 xi) ⟨xi, xm, xk, false, ⟨true, 0, xs⟩⟩ rfl).col 1 (.string xm) ⟨xi, xm, xk, false, ⟨true, 0, xs⟩⟩ rfl).col 2 (.int .i64 1) ⟨xi, xm, 1, false, ⟨true, 0, xs⟩⟩ rfl).col 3 (.bool false) ⟨xi, xm, 1, false, ⟨true, 0, xs⟩⟩ rfl).col 4 (.bool false) ⟨xi, xm, 1, false, ⟨false, 0, xs⟩⟩ rfl).col 5 (.int .i64 1) ⟨xi, xm, 1, false, ⟨false, 1, xs⟩⟩ rfl).col 6 (.string ⟨#[]⟩) ⟨xi, xm, 1, false, ⟨false, 1, ⟨#[]⟩⟩⟩ rfl)
        go_upto_region 18 with fail
        obtain ⟨W7, hW7⟩ : ∃ u, (((((((w6.setCell ⟨gc, 0, none⟩ (.int .i64 xi)).setCell ⟨gc, 1, none⟩ (.string xm)).setCell ⟨gc, 2, none⟩ (.int .i64 1)).setCell ⟨gc, 3, none⟩ (.bool false)).setCell ⟨gc, 4, none⟩ (.bool false)).setCell ⟨gc, 5, none⟩ (.int .i64 1)).setCell ⟨gc, 6, none⟩ (.string ⟨#[]⟩)) = u := ⟨_, rfl⟩
        rw [hW7] at HS7 ⊢
        clear hW7 v0 v1 v2 v3 v4 v5 v6 f0 f1 f2 f3 f4 f5 f6 s0 s1 sf0 sf1 x0 x1
        have v0 := HS7.out.cb.cell 0
        have f0 := HS7.out.cb.frozen 0
        have v1 := HS7.out.cb.cell 1
        have f1 := HS7.out.cb.frozen 1
        have v2 := HS7.out.cb.cell 2
        have f2 := HS7.out.cb.frozen 2
        have v3 := HS7.out.cb.cell 3
        have f3 := HS7.out.cb.frozen 3
        have v4 := HS7.out.cb.cell 4
        have f4 := HS7.out.cb.frozen 4
        have v5 := HS7.out.cb.cell 5
        have f5 := HS7.out.cb.frozen 5
        have v6 := HS7.out.cb.cell 6
        have f6 := HS7.out.cb.frozen 6
        have s0 := HS7.out.s.cell 0
        have sf0 := HS7.out.s.frozen 0
        have s1 := HS7.out.s.cell 1
        have sf1 := HS7.out.s.frozen 1
        have r8 := HX8.out.later HS7.out.b
        have x0 := r8.cell 0
        have x1 := r8.cell 1
        clear r8
        simp only [List.getElem?_cons_succ, List.getElem?_cons_zero] at v0 v1 v2 v3 v4 v5 v6 s0 s1 x0 x1
        obtain ⟨bx', ox', hxx, _, _, _, _, y4', _, _⟩ := rdK_cells HRX.out.c HS7.out.b HCX.out
        have hxx : some (⟨bx, ox, none⟩ : Addr) = some ⟨bx', ox', none⟩ := hxx
        injection hxx with hxx
        injection hxx with hx1 hx2 _
        subst hx1 hx2
        simp only at y4'
        go_wp2_with fail
        go_meet
        exact Lib.hid ⟨[0], ⟨xi, xm, 1, false, ⟨false, 1, ⟨#[]⟩⟩⟩, _, _, HS7.out.col 4 (.bool false) ⟨xi, xm, 1, false, ⟨false, 1, ⟨#[]⟩⟩⟩ rfl, HCL.out.sp1 HNN.out h14 HCX.out ⟨false, 1, ⟨#[]⟩⟩ (by first | rfl | decide), smok_set HOA.out ⟨HKO.out.id, ⟨by show (-9223372036854775808 : Int) ≤ 1; decide, by show (1 : Int) ≤ 9223372036854775807; decide⟩, HKO.out.nm, ⟨by show (-9223372036854775808 : Int) ≤ 1; decide, by show (1 : Int) ≤ 9223372036854775807; decide⟩, by show (⟨#[]⟩ : ByteArray).size ≤ 1000000; decide⟩ (.inl rfl)⟩
      · have HS7 := Lib.hid (((((((HSB.out.col 0 (.int .i64 xi) ⟨xi, xm, xk, true, ⟨false, 0, xs⟩⟩ rfl).col 1 (.string xm) ⟨xi, xm, xk, true, ⟨false, 0, xs⟩⟩ rfl).col 2 (.int .i64 1) ⟨xi, xm, 1, true, ⟨false, 0, xs⟩⟩ rfl).col 3 (.bool true) ⟨xi, xm, 1, true, ⟨false, 0, xs⟩⟩ rfl).col 4 (.bool false) ⟨xi, xm, 1, true, ⟨false, 0, xs⟩⟩ rfl).col 5 (.int .i64 1) ⟨xi, xm, 1, true, ⟨false, 1, xs⟩⟩ rfl).col 6 (.string ⟨#[]⟩) ⟨xi, xm, 1, true, ⟨false, 1, ⟨#[]⟩⟩⟩ rfl)
        go_upto_region 18 with fail
        obtain ⟨W7, hW7⟩ : ∃ u, (((((((w6.setCell ⟨gc, 0, none⟩ (.int .i64 xi)).setCell ⟨gc, 1, none⟩ (.string xm)).setCell ⟨gc, 2, none⟩ (.int .i64 1)).setCell ⟨gc, 3, none⟩ (.bool true)).setCell ⟨gc, 4, none⟩ (.bool false)).setCell ⟨gc, 5, none⟩ (.int .i64 1)).setCell ⟨gc, 6, none⟩ (.string ⟨#[]⟩)) = u := ⟨_, rfl⟩
        rw [hW7] at HS7 ⊢
        clear hW7 v0 v1 v2 v3 v4 v5 v6 f0 f1 f2 f3 f4 f5 f6 s0 s1 sf0 sf1 x0 x1
        have v0 := HS7.out.cb.cell 0
        have f0 := HS7.out.cb.frozen 0
        have v1 := HS7.out.cb.cell 1
        have f1 := HS7.out.cb.frozen 1
        have v2 := HS7.out.cb.cell 2
        have f2 := HS7.out.cb.frozen 2
        have v3 := HS7.out.cb.cell 3
        have f3 := HS7.out.cb.frozen 3
        have v4 := HS7.out.cb.cell 4
        have f4 := HS7.out.cb.frozen 4
        have v5 := HS7.out.cb.cell 5
        have f5 := HS7.out.cb.frozen 5
        have v6 := HS7.out.cb.cell 6
        have f6 := HS7.out.cb.frozen 6
        have s0 := HS7.out.s.cell 0
        have sf0 := HS7.out.s.frozen 0
        have s1 := HS7.out.s.cell 1
        have sf1 := HS7.out.s.frozen 1
        have r8 := HX8.out.later HS7.out.b
        have x0 := r8.cell 0
        have x1 := r8.cell 1
        clear r8
        simp only [List.getElem?_cons_succ, List.getElem?_cons_zero] at v0 v1 v2 v3 v4 v5 v6 s0 s1 x0 x1
        obtain ⟨bx', ox', hxx, _, _, _, _, y4', _, _⟩ := rdK_cells HRX.out.c HS7.out.b HCX.out
        have hxx : some (⟨bx, ox, none⟩ : Addr) = some ⟨bx', ox', none⟩ := hxx
        injection hxx with hxx
        injection hxx with hx1 hx2 _
        subst hx1 hx2
        simp only at y4'
        go_wp2_with fail
        go_meet
        exact Lib.hid ⟨[0], ⟨xi, xm, 1, true, ⟨true, 0, ⟨#[]⟩⟩⟩, _, _, (HS7.out.col 4 (.bool true) ⟨xi, xm, 1, true, ⟨true, 1, ⟨#[]⟩⟩⟩ rfl).col 5 (.int .i64 0) ⟨xi, xm, 1, true, ⟨true, 0, ⟨#[]⟩⟩⟩ rfl, HCL.out.sp1 HNN.out h14 HCX.out ⟨true, 0, ⟨#[]⟩⟩ (by first | rfl | decide), smok_set HOA.out ⟨HKO.out.id, ⟨by show (-9223372036854775808 : Int) ≤ 1; decide, by show (1 : Int) ≤ 9223372036854775807; decide⟩, HKO.out.nm, ⟨by show (-9223372036854775808 : Int) ≤ 0; decide, by show (0 : Int) ≤ 9223372036854775807; decide⟩, by show (⟨#[]⟩ : ByteArray).size ≤ 1000000; decide⟩ (.inl rfl)⟩
      · have HS7 := Lib.hid (((((((HSB.out.col 0 (.int .i64 xi) ⟨xi, xm, xk, true, ⟨true, 0, xs⟩⟩ rfl).col 1 (.string xm) ⟨xi, xm, xk, true, ⟨true, 0, xs⟩⟩ rfl).col 2 (.int .i64 1) ⟨xi, xm, 1, true, ⟨true, 0, xs⟩⟩ rfl).col 3 (.bool true) ⟨xi, xm, 1, true, ⟨true, 0, xs⟩⟩ rfl).col 4 (.bool false) ⟨xi, xm, 1, true, ⟨false, 0, xs⟩⟩ rfl).col 5 (.int .i64 1) ⟨xi, xm, 1, true, ⟨false, 1, xs⟩⟩ rfl).col 6 (.string ⟨#[]⟩) ⟨xi, xm, 1, true, ⟨false, 1, ⟨#[]⟩⟩⟩ rfl)
        go_upto_region 18 with fail
        obtain ⟨W7, hW7⟩ : ∃ u, (((((((w6.setCell ⟨gc, 0, none⟩ (.int .i64 xi)).setCell ⟨gc, 1, none⟩ (.string xm)).setCell ⟨gc, 2, none⟩ (.int .i64 1)).setCell ⟨gc, 3, none⟩ (.bool true)).setCell ⟨gc, 4, none⟩ (.bool false)).setCell ⟨gc, 5, none⟩ (.int .i64 1)).setCell ⟨gc, 6, none⟩ (.string ⟨#[]⟩)) = u := ⟨_, rfl⟩
        rw [hW7] at HS7 ⊢
        clear hW7 v0 v1 v2 v3 v4 v5 v6 f0 f1 f2 f3 f4 f5 f6 s0 s1 sf0 sf1 x0 x1
        have v0 := HS7.out.cb.cell 0
        have f0 := HS7.out.cb.frozen 0
        have v1 := HS7.out.cb.cell 1
        have f1 := HS7.out.cb.frozen 1
        have v2 := HS7.out.cb.cell 2
        have f2 := HS7.out.cb.frozen 2
        have v3 := HS7.out.cb.cell 3
        have f3 := HS7.out.cb.frozen 3
        have v4 := HS7.out.cb.cell 4
        have f4 := HS7.out.cb.frozen 4
        have v5 := HS7.out.cb.cell 5
        have f5 := HS7.out.cb.frozen 5
        have v6 := HS7.out.cb.cell 6
        have f6 := HS7.out.cb.frozen 6
        have s0 := HS7.out.s.cell 0
        have sf0 := HS7.out.s.frozen 0
        have s1 := HS7.out.s.cell 1
        have sf1 := HS7.out.s.frozen 1
        have r8 := HX8.out.later HS7.out.b
        have x0 := r8.cell 0
        have x1 := r8.cell 1
        clear r8
        simp only [List.getElem?_cons_succ, List.getElem?_cons_zero] at v0 v1 v2 v3 v4 v5 v6 s0 s1 x0 x1
        obtain ⟨bx', ox', hxx, _, _, _, _, y4', _, _⟩ := rdK_cells HRX.out.c HS7.out.b HCX.out
        have hxx : some (⟨bx, ox, none⟩ : Addr) = some ⟨bx', ox', none⟩ := hxx
        injection hxx with hxx
        injection hxx with hx1 hx2 _
        subst hx1 hx2
        simp only at y4'
        go_wp2_with fail
        go_meet
        exact Lib.hid ⟨[0], ⟨xi, xm, 1, true, ⟨false, 1, ⟨#[]⟩⟩⟩, _, _, HS7.out.col 4 (.bool false) ⟨xi, xm, 1, true, ⟨false, 1, ⟨#[]⟩⟩⟩ rfl, HCL.out.sp1 HNN.out h14 HCX.out ⟨false, 1, ⟨#[]⟩⟩ (by first | rfl | decide), smok_set HOA.out ⟨HKO.out.id, ⟨by show (-9223372036854775808 : Int) ≤ 1; decide, by show (1 : Int) ≤ 9223372036854775807; decide⟩, HKO.out.nm, ⟨by show (-9223372036854775808 : Int) ≤ 1; decide, by show (1 : Int) ≤ 9223372036854775807; decide⟩, by show (⟨#[]⟩ : ByteArray).size ≤ 1000000; decide⟩ (.inl rfl)⟩
      · have HS7 := Lib.hid (((((((HSB.out.col 0 (.int .i64 xi) ⟨xi, xm, xk, false, ⟨false, 1, xs⟩⟩ rfl).col 1 (.string xm) ⟨xi, xm, xk, false, ⟨false, 1, xs⟩⟩ rfl).col 2 (.int .i64 1) ⟨xi, xm, 1, false, ⟨false, 1, xs⟩⟩ rfl).col 3 (.bool false) ⟨xi, xm, 1, false, ⟨false, 1, xs⟩⟩ rfl).col 4 (.bool false) ⟨xi, xm, 1, false, ⟨false, 1, xs⟩⟩ rfl).col 5 (.int .i64 0) ⟨xi, xm, 1, false, ⟨false, 0, xs⟩⟩ rfl).col 6 (.string ⟨#[]⟩) ⟨xi, xm, 1, false, ⟨false, 0, ⟨#[]⟩⟩⟩ rfl)
        go_upto_region 18 with fail
        obtain ⟨W7, hW7⟩ : ∃ u, (((((((w6.setCell ⟨gc, 0, none⟩ (.int .i64 xi)).setCell ⟨gc, 1, none⟩ (.string xm)).setCell ⟨gc, 2, none⟩ (.int .i64 1)).setCell ⟨gc, 3, none⟩ (.bool false)).setCell ⟨gc, 4, none⟩ (.bool false)).setCell ⟨gc, 5, none⟩ (.int .i64 0)).setCell ⟨gc, 6, none⟩ (.string ⟨#[]⟩)) = u := ⟨_, rfl⟩
        rw [hW7] at HS7 ⊢
        clear hW7 v0 v1 v2 v3 v4 v5 v6 f0 f1 f2 f3 f4 f5 f6 s0 s1 sf0 sf1 x0 x1
        have v0 := HS7.out.cb.cell 0
        have f0 := HS7.out.cb.frozen 0
        have v1 := HS7.out.cb.cell 1
        have f1 := HS7.out.cb.frozen 1
        have v2 := HS7.out.cb.cell 2
        have f2 := HS7.out.cb.frozen 2
        have v3 := HS7.out.cb.cell 3
        have f3 := HS7.out.cb.frozen 3
        have v4 := HS7.out.cb.cell 4
        have f4 := HS7.out.cb.frozen 4
        have v5 := HS7.out.cb.cell 5
        have f5 := HS7.out.cb.frozen 5
        have v6 := HS7.out.cb.cell 6
        have f6 := HS7.out.cb.frozen 6
        have s0 := HS7.out.s.cell 0
        have sf0 := HS7.out.s.frozen 0
        have s1 := HS7.out.s.cell 1
        have sf1 := HS7.out.s.frozen 1
        have r8 := HX8.out.later HS7.out.b
        have x0 := r8.cell 0
        have x1 := r8.cell 1
        clear r8
        simp only [List.getElem?_cons_succ, List.getElem?_cons_zero] at v0 v1 v2 v3 v4 v5 v6 s0 s1 x0 x1
        obtain ⟨bx', ox', hxx, _, _, _, _, y4', _, _⟩ := rdK_cells HRX.out.c HS7.out.b HCX.out
        have hxx : some (⟨bx, ox, none⟩ : Addr) = some ⟨bx', ox', none⟩ := hxx
        injection hxx with hxx
        injection hxx with hx1 hx2 _
        subst hx1 hx2
        simp only at y4'
        go_wp2_with fail
        go_meet
        exact Lib.hid ⟨[0], ⟨xi, xm, 1, false, ⟨false, 0, ⟨#[]⟩⟩⟩, _, _, HS7.out.col 4 (.bool false) ⟨xi, xm, 1, false, ⟨false, 0, ⟨#[]⟩⟩⟩ rfl, HCL.out.sp1 HNN.out h14 HCX.out ⟨false, 0, ⟨#[]⟩⟩ (by first | rfl | decide), smok_set HOA.out ⟨HKO.out.id, ⟨by show (-9223372036854775808 : Int) ≤ 1; decide, by show (1 : Int) ≤ 9223372036854775807; decide⟩, HKO.out.nm, ⟨by show (-9223372036854775808 : Int) ≤ 0; decide, by show (0 : Int) ≤ 9223372036854775807; decide⟩, by show (⟨#[]⟩ : ByteArray).size ≤ 1000000; decide⟩ (.inl rfl)⟩
      · have HS7 := Lib.hid (((((((HSB.out.col 0 (.int .i64 xi) ⟨xi, xm, xk, false, ⟨true, 1, xs⟩⟩ rfl).col 1 (.string xm) ⟨xi, xm, xk, false, ⟨true, 1, xs⟩⟩ rfl).col 2 (.int .i64 1) ⟨xi, xm, 1, false, ⟨true, 1, xs⟩⟩ rfl).col 3 (.bool false) ⟨xi, xm, 1, false, ⟨true, 1, xs⟩⟩ rfl).col 4 (.bool false) ⟨xi, xm, 1, false, ⟨false, 1, xs⟩⟩ rfl).col 5 (.int .i64 0) ⟨xi, xm, 1, false, ⟨false, 0, xs⟩⟩ rfl).col 6 (.string ⟨#[]⟩) ⟨xi, xm, 1, false, ⟨false, 0, ⟨#[]⟩⟩⟩ rfl)
        go_upto_region 18 with fail
        obtain ⟨W7, hW7⟩ : ∃ u, (((((((w6.setCell ⟨gc, 0, none⟩ (.int .i64 xi)).setCell ⟨gc, 1, none⟩ (.string xm)).setCell ⟨gc, 2, none⟩ (.int .i64 1)).setCell ⟨gc, 3, none⟩ (.bool false)).setCell ⟨gc, 4, none⟩ (.bool false)).setCell ⟨gc, 5, none⟩ (.int .i64 0)).setCell ⟨gc, 6, none⟩ (.string ⟨#[]⟩)) = u := ⟨_, rfl⟩
        rw [hW7] at HS7 ⊢
        clear hW7 v0 v1 v2 v3 v4 v5 v6 f0 f1 f2 f3 f4 f5 f6 s0 s1 sf0 sf1 x0 x1
        have v0 := HS7.out.cb.cell 0
        have f0 := HS7.out.cb.frozen 0
        have v1 := HS7.out.cb.cell 1
        have f1 := HS7.out.cb.frozen 1
        have v2 := HS7.out.cb.cell 2
        have f2 := HS7.out.cb.frozen 2
        have v3 := HS7.out.cb.cell 3
        have f3 := HS7.out.cb.frozen 3
        have v4 := HS7.out.cb.cell 4
        have f4 := HS7.out.cb.frozen 4
        have v5 := HS7.out.cb.cell 5
        have f5 := HS7.out.cb.frozen 5
        have v6 := HS7.out.cb.cell 6
        have f6 := HS7.out.cb.frozen 6
        have s0 := HS7.out.s.cell 0
        have sf0 := HS7.out.s.frozen 0
        have s1 := HS7.out.s.cell 1
        have sf1 := HS7.out.s.frozen 1
        have r8 := HX8.out.later HS7.out.b
        have x0 := r8.cell 0
        have x1 := r8.cell 1
        clear r8
        simp only [List.getElem?_cons_succ, List.getElem?_cons_zero] at v0 v1 v2 v3 v4 v5 v6 s0 s1 x0 x1
        obtain ⟨bx', ox', hxx, _, _, _, _, y4', _, _⟩ := rdK_cells HRX.out.c HS7.out.b HCX.out
        have hxx : some (⟨bx, ox, none⟩ : Addr) = some ⟨bx', ox', none⟩ := hxx
        injection hxx with hxx
        injection hxx with hx1 hx2 _
        subst hx1 hx2
        simp only at y4'
        go_wp2_with fail
        go_meet
        exact Lib.hid ⟨[0], ⟨xi, xm, 1, false, ⟨false, 0, ⟨#[]⟩⟩⟩, _, _, HS7.out.col 4 (.bool false) ⟨xi, xm, 1, false, ⟨false, 0, ⟨#[]⟩⟩⟩ rfl, HCL.out.sp1 HNN.out h14 HCX.out ⟨false, 0, ⟨#[]⟩⟩ (by first | rfl | decide), smok_set HOA.out ⟨HKO.out.id, ⟨by show (-9223372036854775808 : Int) ≤ 1; decide, by show (1 : Int) ≤ 9223372036854775807; decide⟩, HKO.out.nm, ⟨by show (-9223372036854775808 : Int) ≤ 0; decide, by show (0 : Int) ≤ 9223372036854775807; decide⟩, by show (⟨#[]⟩ : ByteArray).size ≤ 1000000; decide⟩ (.inl rfl)⟩
      · have HS7 := Lib.hid (((((((HSB.out.col 0 (.int .i64 xi) ⟨xi, xm, xk, true, ⟨false, 1, xs⟩⟩ rfl).col 1 (.string xm) ⟨xi, xm, xk, true, ⟨false, 1, xs⟩⟩ rfl).col 2 (.int .i64 1) ⟨xi, xm, 1, true, ⟨false, 1, xs⟩⟩ rfl).col 3 (.bool true) ⟨xi, xm, 1, true, ⟨false, 1, xs⟩⟩ rfl).col 4 (.bool false) ⟨xi, xm, 1, true, ⟨false, 1, xs⟩⟩ rfl).col 5 (.int .i64 0) ⟨xi, xm, 1, true, ⟨false, 0, xs⟩⟩ rfl).col 6 (.string ⟨#[]⟩) ⟨xi, xm, 1, true, ⟨false, 0, ⟨#[]⟩⟩⟩ rfl)
        go_upto_region 18 with fail
        obtain ⟨W7, hW7⟩ : ∃ u, (((((((w6.setCell ⟨gc, 0, none⟩ (.int .i64 xi)).setCell ⟨gc, 1, none⟩ (.string xm)).setCell ⟨gc, 2, none⟩ (.int .i64 1)).setCell ⟨gc, 3, none⟩ (.bool true)).setCell ⟨gc, 4, none⟩ (.bool false)).setCell ⟨gc, 5, none⟩ (.int .i64 0)).setCell ⟨gc, 6, none⟩ (.string ⟨#[]⟩)) = u := ⟨_, rfl⟩
        rw [hW7] at HS7 ⊢
        clear hW7 v0 v1 v2 v3 v4 v5 v6 f0 f1 f2 f3 f4 f5 f6 s0 s1 sf0 sf1 x0 x1
        have v0 := HS7.out.cb.cell 0
        have f0 := HS7.out.cb.frozen 0
        have v1 := HS7.out.cb.cell 1
        have f1 := HS7.out.cb.frozen 1
        have v2 := HS7.out.cb.cell 2
        have f2 := HS7.out.cb.frozen 2
        have v3 := HS7.out.cb.cell 3
        have f3 := HS7.out.cb.frozen 3
        have v4 := HS7.out.cb.cell 4
        have f4 := HS7.out.cb.frozen 4
        have v5 := HS7.out.cb.cell 5
        have f5 := HS7.out.cb.frozen 5
        have v6 := HS7.out.cb.cell 6
        have f6 := HS7.out.cb.frozen 6
        have s0 := HS7.out.s.cell 0
        have sf0 := HS7.out.s.frozen 0
        have s1 := HS7.out.s.cell 1
        have sf1 := HS7.out.s.frozen 1
        have r8 := HX8.out.later HS7.out.b
        have x0 := r8.cell 0
        have x1 := r8.cell 1
        clear r8
        simp only [List.getElem?_cons_succ, List.getElem?_cons_zero] at v0 v1 v2 v3 v4 v5 v6 s0 s1 x0 x1
        obtain ⟨bx', ox', hxx, _, _, _, _, y4', _, _⟩ := rdK_cells HRX.out.c HS7.out.b HCX.out
        have hxx : some (⟨bx, ox, none⟩ : Addr) = some ⟨bx', ox', none⟩ := hxx
        injection hxx with hxx
        injection hxx with hx1 hx2 _
        subst hx1 hx2
        simp only at y4'
        go_wp2_with fail
        go_meet
        exact Lib.hid ⟨[0], ⟨xi, xm, 1, true, ⟨true, 0, ⟨#[]⟩⟩⟩, _, _, (HS7.out.col 4 (.bool true) ⟨xi, xm, 1, true, ⟨true, 0, ⟨#[]⟩⟩⟩ rfl).col 5 (.int .i64 0) ⟨xi, xm, 1, true, ⟨true, 0, ⟨#[]⟩⟩⟩ rfl, HCL.out.sp1 HNN.out h14 HCX.out ⟨true, 0, ⟨#[]⟩⟩ (by first | rfl | decide), smok_set HOA.out ⟨HKO.out.id, ⟨by show (-9223372036854775808 : Int) ≤ 1; decide, by show (1 : Int) ≤ 9223372036854775807; decide⟩, HKO.out.nm, ⟨by show (-9223372036854775808 : Int) ≤ 0; decide, by show (0 : Int) ≤ 9223372036854775807; decide⟩, by show (⟨#[]⟩ : ByteArray).size ≤ 1000000; decide⟩ (.inl rfl)⟩
      · have HS7 := Lib.hid (((((((HSB.out.col 0 (.int .i64 xi) ⟨xi, xm, xk, true, ⟨true, 1, xs⟩⟩ rfl).col 1 (.string xm) ⟨xi, xm, xk, true, ⟨true, 1, xs⟩⟩ rfl).col 2 (.int .i64 1) ⟨xi, xm, 1, true, ⟨true, 1, xs⟩⟩ rfl).col 3 (.bool true) ⟨xi, xm, 1, true, ⟨true, 1, xs⟩⟩ rfl).col 4 (.bool false) ⟨xi, xm, 1, true, ⟨false, 1, xs⟩⟩ rfl).col 5 (.int .i64 0) ⟨xi, xm, 1, true, ⟨false, 0, xs⟩⟩ rfl).col 6 (.string ⟨#[]⟩) ⟨xi, xm, 1, true, ⟨false, 0, ⟨#[]⟩⟩⟩ rfl)
        go_upto_region 18 with fail
        obtain ⟨W7, hW7⟩ : ∃ u, (((((((w6.setCell ⟨gc, 0, none⟩ (.int .i64 xi)).setCell ⟨gc, 1, none⟩ (.string xm)).setCell ⟨gc, 2, none⟩ (.int .i64 1)).setCell ⟨gc, 3, none⟩ (.bool true)).setCell ⟨gc, 4, none⟩ (.bool false)).setCell ⟨gc, 5, none⟩ (.int .i64 0)).setCell ⟨gc, 6, none⟩ (.string ⟨#[]⟩)) = u := ⟨_, rfl⟩
        rw [hW7] at HS7 ⊢
        clear hW7 v0 v1 v2 v3 v4 v5 v6 f0 f1 f2 f3 f4 f5 f6 s0 s1 sf0 sf1 x0 x1
        have v0 := HS7.out.cb.cell 0
        have f0 := HS7.out.cb.frozen 0
        have v1 := HS7.out.cb.cell 1
        have f1 := HS7.out.cb.frozen 1
        have v2 := HS7.out.cb.cell 2
        have f2 := HS7.out.cb.frozen 2
        have v3 := HS7.out.cb.cell 3
        have f3 := HS7.out.cb.frozen 3
        have v4 := HS7.out.cb.cell 4
        have f4 := HS7.out.cb.frozen 4
        have v5 := HS7.out.cb.cell 5
        have f5 := HS7.out.cb.frozen 5
        have v6 := HS7.out.cb.cell 6
        have f6 := HS7.out.cb.frozen 6
        have s0 := HS7.out.s.cell 0
        have sf0 := HS7.out.s.frozen 0
        have s1 := HS7.out.s.cell 1
        have sf1 := HS7.out.s.frozen 1
        have r8 := HX8.out.later HS7.out.b
        have x0 := r8.cell 0
        have x1 := r8.cell 1
        clear r8
        simp only [List.getElem?_cons_succ, List.getElem?_cons_zero] at v0 v1 v2 v3 v4 v5 v6 s0 s1 x0 x1
        obtain ⟨bx', ox', hxx, _, _, _, _, y4', _, _⟩ := rdK_cells HRX.out.c HS7.out.b HCX.out
        have hxx : some (⟨bx, ox, none⟩ : Addr) = some ⟨bx', ox', none⟩ := hxx
        injection hxx with hxx
        injection hxx with hx1 hx2 _
        subst hx1 hx2
        simp only at y4'
        go_wp2_with fail
        go_meet
        exact Lib.hid ⟨[0], ⟨xi, xm, 1, true, ⟨false, 0, ⟨#[]⟩⟩⟩, _, _, HS7.out.col 4 (.bool false) ⟨xi, xm, 1, true, ⟨false, 0, ⟨#[]⟩⟩⟩ rfl, HCL.out.sp1 HNN.out h14 HCX.out ⟨false, 0, ⟨#[]⟩⟩ (by first | rfl | decide), smok_set HOA.out ⟨HKO.out.id, ⟨by show (-9223372036854775808 : Int) ≤ 1; decide, by show (1 : Int) ≤ 9223372036854775807; decide⟩, HKO.out.nm, ⟨by show (-9223372036854775808 : Int) ≤ 0; decide, by show (0 : Int) ≤ 9223372036854775807; decide⟩, by show (⟨#[]⟩ : ByteArray).size ≤ 1000000; decide⟩ (.inl rfl)⟩
    · skip
      have v0 := HSB.out.cb.cell 0
      have f0 := HSB.out.cb.frozen 0
      have v1 := HSB.out.cb.cell 1
      have f1 := HSB.out.cb.frozen 1
      have v2 := HSB.out.cb.cell 2
      have f2 := HSB.out.cb.frozen 2
      have v3 := HSB.out.cb.cell 3
      have f3 := HSB.out.cb.frozen 3
      have v4 := HSB.out.cb.cell 4
      have f4 := HSB.out.cb.frozen 4
      have v5 := HSB.out.cb.cell 5
      have f5 := HSB.out.cb.frozen 5
      have v6 := HSB.out.cb.cell 6
      have f6 := HSB.out.cb.frozen 6
      have s0 := HSB.out.s.cell 0
      have sf0 := HSB.out.s.frozen 0
      have s1 := HSB.out.s.cell 1
      have sf1 := HSB.out.s.frozen 1
      have r8 := HX8.out.later HSB.out.b
      have x0 := r8.cell 0
      have x1 := r8.cell 1
      clear r8
      simp only [List.getElem?_cons_succ, List.getElem?_cons_zero] at v0 v1 v2 v3 v4 v5 v6 s0 s1 x0 x1
      by_cases hk0 : k = 0
      · subst hk0
        obtain ⟨hu0, hd0⟩ := HCL.out.key_d HCX.out
        simp only at hu0 hd0
        subst hu0 hd0
        have hmm : xm = ⟨#[107]⟩ := HKY.out _ HCX.out
        go_wp2_with fail
        go_meet
        exact Lib.hid ⟨[0], ⟨xi, ⟨#[107, 50]⟩, xk, false, ⟨false, xn, xs⟩⟩, _, _, (HSB.out.col 1 (.string ⟨#[107, 50]⟩) ⟨xi, ⟨#[107, 50]⟩, xk, false, ⟨false, xn, xs⟩⟩ rfl).col 3 (.bool false) ⟨xi, ⟨#[107, 50]⟩, xk, false, ⟨false, xn, xs⟩⟩ rfl, HCL.out.sp2k HNN.out h14 HCX.out hmm, smok_set HOA.out ⟨HKO.out.id, HKO.out.k, by show (⟨#[107, 50]⟩ : ByteArray).size ≤ 1000000; decide, HKO.out.n, HKO.out.s⟩ (.inl rfl)⟩
      · have hk1 : ¬ (k : Int) = 0 := by omega
        have hk2 : (0 : Int) < k := by omega
        have hk3 : 0 < k := by omega
        have hkd : decide (0 < k) = true := by simp [hk3]
        have hkb : ((k : Int) == 0) = false := by simp [hk0]
        cases xu <;> cases xd
        · go_wp2_with fail
          go_meet
          exact Lib.hid ⟨[0], ⟨xi, xm, xk, true, ⟨false, xn, xs⟩⟩, _, _, HSB.out.col 3 (.bool true) ⟨xi, xm, xk, true, ⟨false, xn, xs⟩⟩ rfl, HCL.out.sp2 HNN.out h14 hk0 HCX.out ⟨false, xn, xs⟩ rfl, smok_set HOA.out ⟨HKO.out.id, HKO.out.k, HKO.out.nm, HKO.out.n, HKO.out.s⟩ (.inl rfl)⟩
        · go_wp2_with fail
          go_meet
          exact Lib.hid ⟨[0], ⟨xi, xm, xk, true, ⟨false, 0, ⟨#[]⟩⟩⟩, _, _, (((HSB.out.col 3 (.bool true) ⟨xi, xm, xk, true, ⟨true, xn, xs⟩⟩ rfl).col 4 (.bool false) ⟨xi, xm, xk, true, ⟨false, xn, xs⟩⟩ rfl).col 5 (.int .i64 0) ⟨xi, xm, xk, true, ⟨false, 0, xs⟩⟩ rfl).col 6 (.string ⟨#[]⟩) ⟨xi, xm, xk, true, ⟨false, 0, ⟨#[]⟩⟩⟩ rfl, HCL.out.sp2 HNN.out h14 hk0 HCX.out Cl.empty rfl, smok_set HOA.out ⟨HKO.out.id, HKO.out.k, HKO.out.nm, ⟨by show (-9223372036854775808 : Int) ≤ 0; decide, by show (0 : Int) ≤ 9223372036854775807; decide⟩, by show (⟨#[]⟩ : ByteArray).size ≤ 1000000; decide⟩ (.inl rfl)⟩
        · go_wp2_with fail
          go_meet
          exact Lib.hid ⟨[0], ⟨xi, xm, xk, false, ⟨false, xn, xs⟩⟩, _, _, HSB.out.col 3 (.bool false) ⟨xi, xm, xk, false, ⟨false, xn, xs⟩⟩ rfl, HCL.out.sp2 HNN.out h14 hk0 HCX.out ⟨false, xn, xs⟩ rfl, smok_set HOA.out ⟨HKO.out.id, HKO.out.k, HKO.out.nm, HKO.out.n, HKO.out.s⟩ (.inl rfl)⟩
        · go_wp2_with fail
          go_meet
          exact Lib.hid ⟨[0], ⟨xi, xm, xk, false, ⟨false, 0, ⟨#[]⟩⟩⟩, _, _, (((HSB.out.col 3 (.bool false) ⟨xi, xm, xk, false, ⟨true, xn, xs⟩⟩ rfl).col 4 (.bool false) ⟨xi, xm, xk, false, ⟨false, xn, xs⟩⟩ rfl).col 5 (.int .i64 0) ⟨xi, xm, xk, false, ⟨false, 0, xs⟩⟩ rfl).col 6 (.string ⟨#[]⟩) ⟨xi, xm, xk, false, ⟨false, 0, ⟨#[]⟩⟩⟩ rfl, HCL.out.sp2 HNN.out h14 hk0 HCX.out Cl.empty rfl, smok_set HOA.out ⟨HKO.out.id, HKO.out.k, HKO.out.nm, ⟨by show (-9223372036854775808 : Int) ≤ 0; decide, by show (0 : Int) ≤ 9223372036854775807; decide⟩, by show (⟨#[]⟩ : ByteArray).size ≤ 1000000; decide⟩ (.inl rfl)⟩
    · skip
      have HSb := Lib.hid (HSB.out.later (box_new w6 (.cells #[.int .i64 1, .string ⟨#[122]⟩, .int .i64 1, .bool false, .bool false, .int .i64 0, .string ⟨#[]⟩] 63)))
      have HOL : Hid (OwnK (w6.alloc (.cells #[.int .i64 1, .string ⟨#[122]⟩, .int .i64 1, .bool false, .bool false, .int .i64 0, .string ⟨#[]⟩] 63)) w3.heap.size (.slice (some ⟨w6.heap.size, 0, none⟩) 1 1) [Ev.zc]) := Lib.hid (Gn.Own.lit coL w6 w3.heap.size [Ev.zc] _ 1 1 rfl rfl rfl (by simp [maxLen]) HSB.out.fresh.2.2)
      have HRI := Lib.hid (RdK.of HSb.out.oc)
      have HNK : Hid (([Ev.zc] : List Co).length + cs.length ≤ 100000000) := Lib.hid (by simp; omega)
      have HSZ := Lib.hid HSb.out.fresh.2.2
      have s0 := HSB.out.s.cell 0
      obtain ⟨W1, HW1⟩ : ∃ W1, w6.alloc (.cells #[.int .i64 1, .string ⟨#[122]⟩, .int .i64 1, .bool false, .bool false, .int .i64 0, .string ⟨#[]⟩] 63) = W1 := ⟨_, rfl⟩
      rw [HW1] at HSb HOL HRI HSZ
      have t0 := HSb.out.s.cell 0
      have t1 := HSb.out.s.cell 1
      simp only [List.getElem?_cons_succ, List.getElem?_cons_zero] at s0 t0 t1
      go_wp2_with (at_builtin
                   refine Gn.wpList_app coL coY rfl (.tmp 140) (.tmp 142) rfl w3.heap.size (.slice (some ⟨w6.heap.size, 0, none⟩) 1 1) [Ev.zc] rfl HOL.out (.slice (some ⟨gy, 0, none⟩) cn yc) cs rfl HRI.out HNK.out HSZ.out ?_
                   intro va1 wa1 ho1 hg1 hl1 hn1
                   obtain ⟨va, vc1, hv1, hsb, hbk⟩ := SB.app3 HSB.out HSb.out ho1 hg1 hl1
                   rw [show ([Ev.zc] ++ cs).length = cn + 1 by simp [hcn]] at hv1
                   subst hv1
                   obtain ⟨W2, hW2⟩ : ∃ u, wa1.setCell ⟨g9, 0, none⟩ (.slice va (cn + 1) vc1) = u := ⟨_, rfl⟩
                   rw [hW2] at hsb
                   have HA := Lib.hid hsb
                   have HBK8 := Lib.hid hbk
                   have q0 := HBK8.out.cell 0
                   have q1 := HBK8.out.cell 1
                   have q2 := HBK8.out.frozen 0
                   have q3 := HBK8.out.frozen 1
                   simp only [List.getElem?_cons_succ, List.getElem?_cons_zero] at q0 q1
                   clear ho1 hg1 hl1 hn1 hsb hbk)
      clear q0 q1 q2 q3 s0 t0 t1 HSb HOL HRI HNK HSZ HSB HBK8
      obtain ⟨gv, rfl⟩ : ∃ q, va = some ⟨q, 0, none⟩ := by
        rcases HA.out.oc.2 with ⟨h1, _⟩ | ⟨q, cap, cur, h1, _⟩
        · injection h1 with _ h2 _; omega
        · injection h1 with h2 _ _; exact ⟨q, h2⟩
      clear hW2 HW1
      go_loopw [12] (fun i wr => ∃ j : Nat, 1 ≤ j ∧ j ≤ cn + 1 ∧ i = .int .i64 (j : Nat) ∧ Hid (SB w3 w3.heap.size g9 gc (Ev.zc :: Ev.mixB (j - 1) cs) [0] ⟨xi, xm, xk, xu, ⟨xd, xn, xs⟩⟩ (.slice (some ⟨gv, 0, none⟩) (cn + 1) vc1) (.slice za 1 zc) wr)) (fun i _ => cn + 1 - (intOf i).toNat)
      case atStart => exact ⟨1, by omega, by omega, by rfl, by rw [Nat.sub_self, Ev.mixB_zero]; exact HA⟩
      case round =>
        obtain ⟨j, hj1, hj2, rfl, HK⟩ := hrel
        clear HA
        have s0 := HK.out.s.cell 0
        have s1 := HK.out.s.cell 1
        simp only [List.getElem?_cons_succ, List.getElem?_cons_zero] at s0 s1
        by_cases hlt : j < cn + 1
        · have hlt1 : (j : Int) < ((cn + 1 : Nat) : Int) := by omega
          have hlt2 : (j : Int) < (cn : Int) + 1 := by omega
          obtain ⟨q, rfl⟩ : ∃ q, j = q + 1 := ⟨j - 1, by omega⟩
          rw [Nat.add_sub_cancel] at HK
          obtain ⟨x, hx⟩ : ∃ x, cs[q]? = some x := ⟨_, List.getElem?_eq_getElem (by omega)⟩
          have hat : (Ev.zc :: Ev.mixB q cs)[q + 1]? = some x := by rw [List.getElem?_cons_succ]; exact Ev.mixB_at hx
          have hl1 : (Ev.zc :: Ev.mixB q cs).length = cn + 1 := by rw [List.length_cons, Ev.mixB_len, hcn]
          obtain ⟨gb', off', hgo, p0, _⟩ := rdK_cells (RdK.of HK.out.oc) (Below.refl _ _) hat
          injection hgo with hgo
          injection hgo with hg1 hg2 _
          subst hg1 hg2
          simp only [Nat.zero_add] at p0
          have q0 := (own_there7 HK.out.oc hl1 hlt 0 (by omega)).2
          simp only [Nat.add_zero] at q0
          have HST := Lib.hid (Ev.mixB_set hx)
          have hid0 := (HCL.out.at hx).id0
          have hid1 := (HCL.out.at hx).id1
          have hnn := HNN.out
          have HFI := Lib.hid ((HK.out.putI hl1 hat (x.id + 1)).later (Below.refl _ _).drew)
          rw [show (Ev.zc :: Ev.mixB q cs).set (q + 1) (withId x (x.id + 1)) = Ev.zc :: Ev.mixB (q + 1) cs by rw [List.set_cons_succ, show withId x (x.id + 1) = Ev.bump x from rfl, HST.out]] at HFI
          obtain ⟨xid, hxid⟩ : ∃ z, x.id = z := ⟨_, rfl⟩
          rw [hxid] at p0 hid0 hid1 HFI
          clear hx hat hl1 HK HST hxid
          go_upto_region 32 with fail
          go_region
          all_goals
            go_wp2_with fail
            go_roundw
            case rel => exact ⟨q + 1 + 1, by omega, by omega, by go_num, HFI⟩
            case measure => simp [intOf]; omega
        · have hlt1 : ¬ (j : Int) < ((cn + 1 : Nat) : Int) := by omega
          have hlt2 : ¬ (j : Int) < (cn : Int) + 1 := by omega
          obtain rfl : j = cn + 1 := by omega
          rw [Nat.add_sub_cancel, ← hcn, Ev.mixB_all, hcn] at HK
          have HSP := Lib.hid (HCL.out.sp3 HNN.out h14 (fun c hc => HKY.out c hc))
          have HSM := Lib.hid (smok_bump HOA.out HCL.out HNN.out h14)
          obtain ⟨D, hD⟩ : ∃ D, Ev.zc :: cs.map Ev.bump = D := ⟨_, rfl⟩
          have hDn : D.length = cn + 1 := by rw [← hD, List.length_cons, List.length_map, hcn]
          rw [hD] at HK HSP HSM
          clear hD s0 s1
          have HB9 := Lib.hid (up HB3.out HK.out.b)
          have HT9 := Lib.hid (HT3.out.later HK.out.b)
          have s0 := HK.out.s.cell 0
          have s1 := HK.out.s.cell 1
          have r8 := HX8.out.later HK.out.b
          have x0 := r8.cell 0
          have x1 := r8.cell 1
          simp only [List.getElem?_cons_succ, List.getElem?_cons_zero] at s0 s1 x0 x1
          clear r8
          have pa := pr_mk (HRX.out.later HK.out.b) (And.intro hcn (show ([0] : List Int).length = 1 from rfl))
          have rdb : RdS wr wr.heap.size ⟨some ⟨gv, 0, none⟩, vc1, za, zc, (D, [0])⟩ := ⟨by unfold Sx.v; simp only; rw [hDn]; exact RdK.of HK.out.oc, RdI.of HK.out.ok⟩
          have pb := pr_mk rdb (And.intro hDn (show ([0] : List Int).length = 1 from rfl))
          have CS := Lib.hid (stL _ _ HOA.out HSM.out wr HT9.out pa pb 120 HSP.out.no)
          clear pa pb rdb
          go_wp2_with fail
          ((with_reducible refine CS.out.mono ?_); rintro e wt0 ⟨rfl, b4⟩)
          have HBt0 := Lib.hid (up HB9.out b4)
          have HTt0 := Lib.hid (HT9.out.later b4)
          have HPt0 := Lib.hid (HK.out.later b4)
          clear b4 CS s0 s1 x0 x1
          go_wp2_with fail
          ((with_reducible refine (works12 _ HTt0.out).mono ?_); rintro e we ⟨rfl, b4⟩)
          have HBe := Lib.hid (up HBt0.out b4)
          clear b4
          go_wp2_with fail
          go_ret
          exact ⟨rfl, HBe.out⟩
    · skip
      have v0 := HSB.out.cb.cell 0
      have f0 := HSB.out.cb.frozen 0
      have v1 := HSB.out.cb.cell 1
      have f1 := HSB.out.cb.frozen 1
      have v2 := HSB.out.cb.cell 2
      have f2 := HSB.out.cb.frozen 2
      have v3 := HSB.out.cb.cell 3
      have f3 := HSB.out.cb.frozen 3
      have v4 := HSB.out.cb.cell 4
      have f4 := HSB.out.cb.frozen 4
      have v5 := HSB.out.cb.cell 5
      have f5 := HSB.out.cb.frozen 5
      have v6 := HSB.out.cb.cell 6
      have f6 := HSB.out.cb.frozen 6
      have s0 := HSB.out.s.cell 0
      have sf0 := HSB.out.s.frozen 0
      have s1 := HSB.out.s.cell 1
      have sf1 := HSB.out.s.frozen 1
      have r8 := HX8.out.later HSB.out.b
      have x0 := r8.cell 0
      have x1 := r8.cell 1
      clear r8
      simp only [List.getElem?_cons_succ, List.getElem?_cons_zero] at v0 v1 v2 v3 v4 v5 v6 s0 s1 x0 x1
      go_wp2_with fail
      go_meet
      exact Lib.hid ⟨[], ⟨xi, xm, xk, xu, ⟨xd, xn, xs⟩⟩, _, _, HSB.out.keys (Gn.Own.nil _ _) ⟨(by intro e; cases e), (by intro e; cases e)⟩, by rw [Ev.set_self HCX.out]; exact HCL.out.sp4 HNN.out h14, smok_set HOA.out HKO.out (.inr rfl)⟩
    · skip
      have v0 := HSB.out.cb.cell 0
      have f0 := HSB.out.cb.frozen 0
      have v1 := HSB.out.cb.cell 1
      have f1 := HSB.out.cb.frozen 1
      have v2 := HSB.out.cb.cell 2
      have f2 := HSB.out.cb.frozen 2
      have v3 := HSB.out.cb.cell 3
      have f3 := HSB.out.cb.frozen 3
      have v4 := HSB.out.cb.cell 4
      have f4 := HSB.out.cb.frozen 4
      have v5 := HSB.out.cb.cell 5
      have f5 := HSB.out.cb.frozen 5
      have v6 := HSB.out.cb.cell 6
      have f6 := HSB.out.cb.frozen 6
      have s0 := HSB.out.s.cell 0
      have sf0 := HSB.out.s.frozen 0
      have s1 := HSB.out.s.cell 1
      have sf1 := HSB.out.s.frozen 1
      have r8 := HX8.out.later HSB.out.b
      have x0 := r8.cell 0
      have x1 := r8.cell 1
      clear r8
      simp only [List.getElem?_cons_succ, List.getElem?_cons_zero] at v0 v1 v2 v3 v4 v5 v6 s0 s1 x0 x1
      by_cases hk2 : xk = 2
      · subst hk2
        have HS5 := Lib.hid (HSB.out.col 2 (.int .i64 3) ⟨xi, xm, 3, xu, ⟨xd, xn, xs⟩⟩ rfl)
        go_upto_region 11 with fail
        obtain ⟨W5, hW5⟩ : ∃ u, w6.setCell ⟨gc, 2, none⟩ (.int .i64 3) = u := ⟨_, rfl⟩
        rw [hW5] at HS5 ⊢
        clear hW5 v0 v1 v2 v3 v4 v5 v6 f0 f1 f2 f3 f4 f5 f6 s0 s1 sf0 sf1 x0 x1
        have HPT := Lib.hid (HS5.out.put hcn hkl ⟨xi, xm, 3, xu, ⟨xd, xn, xs⟩⟩)
        have HSP := Lib.hid (HCL.out.sp5 HNN.out h14 HCX.out)
        have HSM := Lib.hid (smok_set (ks1 := [0]) (k := k) HOA.out (c1 := ⟨xi, xm, 3, xu, ⟨xd, xn, xs⟩⟩) ⟨HKO.out.id, ⟨by show (-9223372036854775808 : Int) ≤ 3; decide, by show (3 : Int) ≤ 9223372036854775807; decide⟩, HKO.out.nm, HKO.out.n, HKO.out.s⟩ (.inl rfl))
        have hth := own_there7 HS5.out.oc hcn hkl
        obtain ⟨y, hy⟩ : ∃ y, cs[k]? = some y := ⟨_, List.getElem?_eq_getElem (by omega)⟩
        obtain ⟨gb', off', hgo, p0, p1, p2, p3, p4, p5, p6⟩ := rdK_cells (RdK.of HS5.out.oc) (Below.refl _ _) hy
        injection hgo with hgo
        injection hgo with hg1 hg2 _
        subst hg1 hg2
        simp only [Nat.zero_add] at p0 p1 p2 p3 p4 p5 p6
        have q0 := (hth 0 (by omega)).2
        have q1 := (hth 1 (by omega)).2
        have q2' := (hth 2 (by omega)).2
        have q3 := (hth 3 (by omega)).2
        have q4 := (hth 4 (by omega)).2
        have q5 := (hth 5 (by omega)).2
        have q6 := (hth 6 (by omega)).2
        simp only [Nat.add_zero] at q0
        have v0 := HS5.out.cb.cell 0
        have v1 := HS5.out.cb.cell 1
        have v2 := HS5.out.cb.cell 2
        have v3 := HS5.out.cb.cell 3
        have v4 := HS5.out.cb.cell 4
        have v5 := HS5.out.cb.cell 5
        have v6 := HS5.out.cb.cell 6
        have s0 := HS5.out.s.cell 0
        have s1 := HS5.out.s.cell 1
        simp only [List.getElem?_cons_succ, List.getElem?_cons_zero] at v0 v1 v2 v3 v4 v5 v6 s0 s1
        clear hth hy
        go_upto_region 12 with fail
        have HPS := Lib.hid HPT.out
        obtain ⟨w9, hw9⟩ : ∃ w9, w9 = put7W W5 gy (k * 7) ⟨xi, xm, 3, xu, ⟨xd, xn, xs⟩⟩ := ⟨_, rfl⟩
        rw [← hw9] at HPT
        have HP9 := HPT
        unfold put7W at hw9
        simp only at hw9
        rw [← hw9]
        clear hw9 HPT HPS v0 v1 v2 v3 v4 v5 v6 p0 p1 p2 p3 p4 p5 p6 q0 q1 q2' q3 q4 q5 q6 s0 s1 HSB HS5
        obtain ⟨D, hD⟩ : ∃ D, cs.set k ⟨xi, xm, 3, xu, ⟨xd, xn, xs⟩⟩ = D := ⟨_, rfl⟩
        have hDn : D.length = cn := by rw [← hD, List.length_set]; exact hcn
        rw [hD] at HP9 HSP HSM
        clear hD
        have HB9 := Lib.hid (up HB3.out HP9.out.b)
        have HT9 := Lib.hid (HT3.out.later HP9.out.b)
        have s0 := HP9.out.s.cell 0
        have s1 := HP9.out.s.cell 1
        have r8 := HX8.out.later HP9.out.b
        have x0 := r8.cell 0
        have x1 := r8.cell 1
        simp only [List.getElem?_cons_succ, List.getElem?_cons_zero] at s0 s1 x0 x1
        clear r8
        have pa := pr_mk (HRX.out.later HP9.out.b) (And.intro hcn (show ([0] : List Int).length = 1 from rfl))
        have rdb : RdS w9 w9.heap.size ⟨some ⟨gy, 0, none⟩, yc, za, zc, (D, [0])⟩ := ⟨by unfold Sx.v; simp only; rw [hDn]; exact RdK.of HP9.out.oc, RdI.of HP9.out.ok⟩
        have pb := pr_mk rdb (And.intro hDn (show ([0] : List Int).length = 1 from rfl))
        have CS := Lib.hid (stL _ _ HOA.out HSM.out w9 HT9.out pa pb 0 HSP.out.1)
        clear pa pb rdb
        go_wp2_with fail
        ((with_reducible refine CS.out.mono ?_); rintro e wt0 ⟨rfl, b4⟩)
        have HBt0 := Lib.hid (up HB9.out b4)
        have HTt0 := Lib.hid (HT9.out.later b4)
        have HPt0 := Lib.hid (HP9.out.later b4)
        clear b4 CS s0 s1 x0 x1
        have s0 := HPt0.out.s.cell 0
        have s1 := HPt0.out.s.cell 1
        have r8 := HX8.out.later HPt0.out.b
        have x0 := r8.cell 0
        have x1 := r8.cell 1
        simp only [List.getElem?_cons_succ, List.getElem?_cons_zero] at s0 s1 x0 x1
        clear r8
        have pa := pr_mk (HRX.out.later HPt0.out.b) (And.intro hcn (show ([0] : List Int).length = 1 from rfl))
        have rdb : RdS wt0 wt0.heap.size ⟨some ⟨gy, 0, none⟩, yc, za, zc, (D, [0])⟩ := ⟨by unfold Sx.v; simp only; rw [hDn]; exact RdK.of HPt0.out.oc, RdI.of HPt0.out.ok⟩
        have pb := pr_mk rdb (And.intro hDn (show ([0] : List Int).length = 1 from rfl))
        have CS := Lib.hid (stL _ _ HSM.out HOA.out wt0 HTt0.out pb pa 120 HSP.out.2)
        clear pa pb rdb
        go_wp2_with fail
        ((with_reducible refine CS.out.mono ?_); rintro e wt1 ⟨rfl, b4⟩)
        have HBt1 := Lib.hid (up HBt0.out b4)
        have HTt1 := Lib.hid (HTt0.out.later b4)
        have HPt1 := Lib.hid (HPt0.out.later b4)
        clear b4 CS s0 s1 x0 x1
        go_wp2_with fail
        ((with_reducible refine (works12 _ HTt1.out).mono ?_); rintro e we ⟨rfl, b4⟩)
        have HBe := Lib.hid (up HBt1.out b4)
        clear b4
        go_wp2_with fail
        go_ret
        exact ⟨rfl, HBe.out⟩
      · have hkb : (xk == 2) = false := by simp [hk2]
        go_wp2_with fail
        go_meet
        exact Lib.hid ⟨[0], ⟨xi, ⟨#[111, 116, 104, 101, 114]⟩, xk, xu, ⟨xd, xn, xs⟩⟩, _, _, HSB.out.col 1 (.string ⟨#[111, 116, 104, 101, 114]⟩) ⟨xi, ⟨#[111, 116, 104, 101, 114]⟩, xk, xu, ⟨xd, xn, xs⟩⟩ rfl, HCL.out.sp0 HNN.out h14 HCX.out, smok_set HOA.out ⟨HKO.out.id, HKO.out.k, by show (⟨#[111, 116, 104, 101, 114]⟩ : ByteArray).size ≤ 1000000; decide, HKO.out.n, HKO.out.s⟩ (.inl rfl)⟩
  case rest =>
  obtain ⟨ks1, ⟨yi, ym, yk, yu, ⟨yd, yn, ys⟩⟩, cv1, kv1, hsb, hsp, hsm⟩ := hcut.out
  clear hcut HSB HKO HCX HKY HCL HNN
  simp only at hsb hsp hsm
  obtain ⟨ya, yc2, rfl, _⟩ := Gn.Rd.form (RdK.of hsb.oc)
  obtain ⟨za2, zc2, rfl, _⟩ := Gn.Rd.form (RdI.of hsb.ok)
  rw [hcn] at hsb
  obtain ⟨gz, rfl⟩ : ∃ q, ya = some ⟨q, 0, none⟩ := by
    rcases hsb.oc.2 with ⟨h1, _⟩ | ⟨q, cap, cur, h1, _⟩
    · injection h1 with _ h2 _; omega
    · injection h1 with h2 _ _; exact ⟨q, h2⟩
  have HSB := Lib.hid hsb
  have HPT := Lib.hid (hsb.put hcn hkl ⟨yi, ym, yk, yu, ⟨yd, yn, ys⟩⟩)
  have HSP := Lib.hid hsp
  have HSM := Lib.hid hsm
  have hth := own_there7 hsb.oc hcn hkl
  obtain ⟨y, hy⟩ : ∃ y, cs[k]? = some y := ⟨_, List.getElem?_eq_getElem (by omega)⟩
  obtain ⟨gb', off', hgo, p0, p1, p2, p3, p4, p5, p6⟩ := rdK_cells (RdK.of hsb.oc) (Below.refl _ _) hy
  injection hgo with hgo
  injection hgo with hg1 hg2 _
  subst hg1 hg2
  simp only [Nat.zero_add] at p0 p1 p2 p3 p4 p5 p6
  have q0 := (hth 0 (by omega)).2
  have q1 := (hth 1 (by omega)).2
  have q2' := (hth 2 (by omega)).2
  have q3 := (hth 3 (by omega)).2
  have q4 := (hth 4 (by omega)).2
  have q5 := (hth 5 (by omega)).2
  have q6 := (hth 6 (by omega)).2
  simp only [Nat.add_zero] at q0
  have v0 := hsb.cb.cell 0
  have v1 := hsb.cb.cell 1
  have v2 := hsb.cb.cell 2
  have v3 := hsb.cb.cell 3
  have v4 := hsb.cb.cell 4
  have v5 := hsb.cb.cell 5
  have v6 := hsb.cb.cell 6
  have s0 := hsb.s.cell 0
  have s1 := hsb.s.cell 1
  simp only [List.getElem?_cons_succ, List.getElem?_cons_zero] at v0 v1 v2 v3 v4 v5 v6 s0 s1
  clear hsb hsp hsm hth hy
  go_upto_region 37 with fail
  have HPS := Lib.hid HPT.out
  obtain ⟨w9, hw9⟩ : ∃ w9, w9 = put7W wc gz (k * 7) ⟨yi, ym, yk, yu, ⟨yd, yn, ys⟩⟩ := ⟨_, rfl⟩
  rw [← hw9] at HPT
  have HP9 := HPT
  unfold put7W at hw9
  simp only at hw9
  rw [← hw9]
  clear hw9 HPT HPS v0 v1 v2 v3 v4 v5 v6 p0 p1 p2 p3 p4 p5 p6 q0 q1 q2' q3 q4 q5 q6 s0 s1 HSB
  obtain ⟨D, hD⟩ : ∃ D, cs.set k ⟨yi, ym, yk, yu, ⟨yd, yn, ys⟩⟩ = D := ⟨_, rfl⟩
  have hDn : D.length = cn := by rw [← hD, List.length_set]; exact hcn
  obtain ⟨kn, hkn⟩ : ∃ n, ks1.length = n := ⟨_, rfl⟩
  rw [hD] at HP9 HSP HSM
  rw [hkn] at HP9
  clear hD
  have s0 := HP9.out.s.cell 0
  have s1 := HP9.out.s.cell 1
  have r8 := HX8.out.later HP9.out.b
  have x0 := r8.cell 0
  have x1 := r8.cell 1
  simp only [List.getElem?_cons_succ, List.getElem?_cons_zero] at s0 s1 x0 x1
  clear r8
  have HB9 := Lib.hid (up HB3.out HP9.out.b)
  have HT9 := Lib.hid (HT3.out.later HP9.out.b)
  have CK := Lib.hid (cCheckS _ _ D ks1 w9 HT9.out (RdK.of HP9.out.oc) (RdI.of HP9.out.ok) HSM.out.k HSM.out.i 0 HSP.out.ok)
  go_wp2_with fail
  ((with_reducible refine CK.out.mono ?_); rintro e wa ⟨rfl, b4⟩)
  have HBa := Lib.hid (up HB9.out b4)
  have HTa := Lib.hid (HT9.out.later b4)
  have HPa := Lib.hid (HP9.out.later b4)
  clear b4 CK s0 s1 x0 x1 HP9 HT9 HB9
  have s0 := HPa.out.s.cell 0
  have s1 := HPa.out.s.cell 1
  have r8 := HX8.out.later HPa.out.b
  have x0 := r8.cell 0
  have x1 := r8.cell 1
  simp only [List.getElem?_cons_succ, List.getElem?_cons_zero] at s0 s1 x0 x1
  clear r8
  have pa := pr_mk (HRX.out.later HPa.out.b) (And.intro hcn (show ([0] : List Int).length = 1 from rfl))
  have rdb : RdS wa wa.heap.size ⟨some ⟨gz, 0, none⟩, yc2, za2, zc2, (D, ks1)⟩ := ⟨by unfold Sx.v; simp only; rw [hDn]; exact RdK.of HPa.out.oc, by unfold Sx.kv; simp only; rw [hkn]; exact RdI.of HPa.out.ok⟩
  have CS := Lib.hid (stL _ _ HOA.out HSM.out wa HTa.out pa (pr_mk rdb (And.intro hDn hkn)) 120 HSP.out.no)
  clear pa rdb
  go_wp2_with fail
  ((with_reducible refine CS.out.mono ?_); rintro e wb ⟨rfl, b4⟩)
  have HBb := Lib.hid (up HBa.out b4)
  have HTb := Lib.hid (HTa.out.later b4)
  have HPb := Lib.hid (HPa.out.later b4)
  clear b4 CS s0 s1 x0 x1 HPa HTa HBa
  have s0 := HPb.out.s.cell 0
  have s1 := HPb.out.s.cell 1
  have r8 := HX8.out.later HPb.out.b
  have x0 := r8.cell 0
  have x1 := r8.cell 1
  simp only [List.getElem?_cons_succ, List.getElem?_cons_zero] at s0 s1 x0 x1
  clear r8
  have rda := HRX.out.later HPb.out.b
  have rdb : RdS wb wb.heap.size ⟨some ⟨gz, 0, none⟩, yc2, za2, zc2, (D, ks1)⟩ := ⟨by unfold Sx.v; simp only; rw [hDn]; exact RdK.of HPb.out.oc, by unfold Sx.kv; simp only; rw [hkn]; exact RdI.of HPb.out.ok⟩
  have b6 := box_new wb (.cells #[.slice xa1 cn xc1, .slice xa2 1 xc2, .slice (some ⟨gz, 0, none⟩) cn yc2, .slice za2 kn zc2] 25)
  have rdm := rdS_two rda rdb (Below.refl _ _) #[.slice xa1 cn xc1, .slice xa2 1 xc2, .slice (some ⟨gz, 0, none⟩) cn yc2, .slice za2 kn zc2] (by unfold Sx.v Sx.kv; simp only; rw [hcn, hDn, hkn]; rfl)
  have CC := Lib.hid (cChainE _ [⟨xa1, xc1, xa2, xc2, (cs, [0])⟩, ⟨some ⟨gz, 0, none⟩, yc2, za2, zc2, (D, ks1)⟩] (fun z hz => by simp at hz; rcases hz with e | e <;> rw [e] <;> first | exact HOA.out | exact HSM.out) _ (HTb.out.later b6) rdm 120 HSP.out.no)
  have HBc := Lib.hid (up HBb.out b6)
  have HTc := Lib.hid (HTb.out.later b6)
  clear b6 rda rdb rdm
  go_wp2_with fail
  ((with_reducible refine CC.out.mono ?_); rintro e wd ⟨rfl, b4⟩)
  have HBd := Lib.hid (up HBc.out b4)
  have HTd := Lib.hid (HTc.out.later b4)
  clear b4 CC s0 s1 x0 x1
  go_wp2_with fail
  ((with_reducible refine (works12 _ HTd.out).mono ?_); rintro e we ⟨rfl, b4⟩)
  have HBe := Lib.hid (up HBd.out b4)
  clear b4
  go_wp2_with fail
  go_ret
  exact ⟨rfl, HBe.out⟩
end Go.Proofs.YtigcgkhcbmnboaaGreatDoor
