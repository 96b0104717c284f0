/- EvPaW. -/
import Derived.Test.YtigcgkhcbmnboaaGreatDoorEvS
import Derived.BigQuiet
import Derived.Deep.DeepCutAuto
import Derived.Deep.CutBlock
/- The walk of EvolveParts. -/
namespace Go.Proofs.YtigcgkhcbmnboaaGreatDoor
open Go.RowKit Go.Sort
set_option linter.unusedVariables false
set_option linter.unusedSimpArgs false
set_option maxRecDepth 100000

theorem minI2 (a b c : Int) (h : min a b = c) (w : World) : (Builtin.min_ #[3, 3] 3 #[.int .i64 a, .int .i64 b]).run Tryz.prog w = .ok (.int .i64 c) w := by
  rw [← h]
  simp [Builtin.min_, Builtin.min2]
  repeat' split
  all_goals omega
theorem maxI2 (a b c : Int) (h : max a b = c) (w : World) : (Builtin.max_ #[3, 3] 3 #[.int .i64 a, .int .i64 b]).run Tryz.prog w = .ok (.int .i64 c) w := by
  rw [← h]
  simp [Builtin.max_, Builtin.max2]
  repeat' split
  all_goals omega
theorem minI3 (a b d c : Int) (h : min (min a b) d = c) (w : World) : (Builtin.min_ #[3, 3, 3] 3 #[.int .i64 a, .int .i64 b, .int .i64 d]).run Tryz.prog w = .ok (.int .i64 c) w := by
  rw [← h]
  by_cases h1 : a ≤ b <;> by_cases h2 : a ≤ d <;> by_cases h3 : b ≤ d <;> simp [Builtin.min_, Builtin.min2, *] <;> (repeat' split) <;> omega
theorem maxI3 (a b d c : Int) (h : max (max a b) d = c) (w : World) : (Builtin.max_ #[3, 3, 3] 3 #[.int .i64 a, .int .i64 b, .int .i64 d]).run Tryz.prog w = .ok (.int .i64 c) w := by
  rw [← h]
  by_cases h1 : a ≤ b <;> by_cases h2 : a ≤ d <;> by_cases h3 : b ≤ d <;> simp [Builtin.max_, Builtin.max2, *] <;> (repeat' split) <;> omega
set_option maxHeartbeats 16000000 in
theorem evolveParts (cv vv : Value) (C : List Int) (V : List Ev.V3) (a0 a1 a2 : Int) (nv : Value) (nl : List Int) (w : World) (hs : SeedE w cv vv C V) (h0 : Cl.I64 a0) (h1 : Cl.I64 a1) (h2 : Cl.I64 a2) (hn : NumsE w nv nl) (T : TA w) :
    Calls Tryz.prog 7 #[.agg #[cv, vv], .agg #[.int .i64 a0, .int .i64 a1, .int .i64 a2], nv] w fun e w' => e = .returned (.bool true) ∧ Below w.heap.size w w' := by
  obtain ⟨ca, cc, hcv, _⟩ := Gn.Rd.form hs.c
  obtain ⟨va, vc, hvv, _⟩ := Gn.Rd.form hs.v
  obtain ⟨cn, hcn⟩ : ∃ n, C.length = n := ⟨_, rfl⟩
  obtain ⟨vn, hvn⟩ : ∃ n, V.length = n := ⟨_, rfl⟩
  rw [hcn] at hcv
  rw [hvn] at hvv
  subst hcv hvv
  have b1 := box_new w (.cells #[.slice ca cn cc, .slice va vn vc] 45)
  have b2 := up_box b1 (.cells #[.int .i64 a0, .int .i64 a1, .int .i64 a2] 54)
  have q1 := (Blk.new w 45 #[.slice ca cn cc, .slice va vn vc]).later (box_new _ (.cells #[.int .i64 a0, .int .i64 a1, .int .i64 a2] 54))
  have q2 := Blk.new (w.alloc (.cells #[.slice ca cn cc, .slice va vn vc] 45)) 54 #[.int .i64 a0, .int .i64 a1, .int .i64 a2]
  have HN := Lib.hid (hn.later b2)
  have HT := Lib.hid (T.later b2)
  have HI := Lib.hid (And.intro h0 (And.intro h1 h2))
  have HQ2 := Lib.hid q2
  have HB := Lib.hid b2
  have HC := Lib.hid (chainE (hs.later b2))
  have z0 := q1.cell 0
  have z1 := q1.cell 1
  simp only [List.getElem?_cons_succ, List.getElem?_cons_zero] at z0 z1
  clear hs hn T h0 h1 h2 q1 q2 b1 b2 hcn hvn
  go_enter Tryz.func7, Tryz.ntmps7
  go_wp2_with fail
  obtain ⟨g1, hg1⟩ : ∃ g, (w.alloc (.cells #[.slice ca cn cc, .slice va vn vc] 45)).heap.size = g := ⟨_, rfl⟩
  have hg1' : w.heap.size + 1 = g1 := by rw [← hg1]; simp
  rw [hg1] at HQ2
  simp only [hg1']
  generalize (w.alloc (.cells #[.slice ca cn cc, .slice va vn vc] 45)).alloc (.cells #[.int .i64 a0, .int .i64 a1, .int .i64 a2] 54) = w0 at *
  clear hg1 hg1' z0 z1
  ((with_reducible refine HC.out.mono ?_); rintro e w2 ⟨v, L, rfl, hr, hsm, b⟩)
  have hmk := Ev.mkch_is C V
  generalize Ev.mkch C V = l at *
  obtain ⟨sa, sc, rfl, _⟩ := Gn.Rd.form hr.rd
  have hll : l.length = L.length := by rw [← hsm, sms_len]
  obtain ⟨n, hL⟩ : ∃ n, L.length = n := ⟨_, rfl⟩
  have hn1 : 1 ≤ n := by have := hmk.len0; omega
  have hn8 : n ≤ 8 := by have := hmk.len; omega
  rw [hL] at hr ⊢
  have HLL := Lib.hid hL
  have HR := Lib.hid hr
  have HSM := Lib.hid hsm
  have HMK := Lib.hid hmk
  have HB2 := Lib.hid (up HB.out b)
  have HN2 := Lib.hid (HN.out.later b)
  have HT2 := Lib.hid (HT.out.later b)
  have HQ22 := HQ2.out.later b
  have y0 := HQ22.cell 0
  have y1 := HQ22.cell 1
  have y2 := HQ22.cell 2
  simp only [List.getElem?_cons_succ, List.getElem?_cons_zero] at y0 y1 y2
  obtain ⟨i0, hi0⟩ := Int.eq_ofNat_of_zero_le (Int.emod_nonneg a0 (b := (n : Int)) (by omega))
  have hl0 : i0 < n := by have := Int.emod_lt_of_pos a0 (b := (n : Int)) (by omega); omega
  have HB00 := Lib.hid (fun w1 => bringAtE a0 (n : Int) (i0 : Int) HI.out.1 (by omega) (by omega) hi0 w1)
  obtain ⟨p0, hp0⟩ : ∃ p, 1 + i0 = p := ⟨_, rfl⟩
  have ep0 : (1 : Int) + (i0 : Int) = (p0 : Int) := by omega
  obtain ⟨i1, hi1⟩ := Int.eq_ofNat_of_zero_le (Int.emod_nonneg a1 (b := (n : Int)) (by omega))
  have hl1 : i1 < n := by have := Int.emod_lt_of_pos a1 (b := (n : Int)) (by omega); omega
  have HB10 := Lib.hid (fun w1 => bringAtE a1 (n : Int) (i1 : Int) HI.out.2.1 (by omega) (by omega) hi1 w1)
  obtain ⟨p1, hp1⟩ : ∃ p, 1 + i1 = p := ⟨_, rfl⟩
  have ep1 : (1 : Int) + (i1 : Int) = (p1 : Int) := by omega
  obtain ⟨i2, hi2⟩ := Int.eq_ofNat_of_zero_le (Int.emod_nonneg a2 (b := (n : Int)) (by omega))
  have hl2 : i2 < n := by have := Int.emod_lt_of_pos a2 (b := (n : Int)) (by omega); omega
  have HB20 := Lib.hid (fun w1 => bringAtE a2 (n : Int) (i2 : Int) HI.out.2.2 (by omega) (by omega) hi2 w1)
  obtain ⟨p2, hp2⟩ : ∃ p, 1 + i2 = p := ⟨_, rfl⟩
  have ep2 : (1 : Int) + (i2 : Int) = (p2 : Int) := by omega
  obtain ⟨lo, hlo⟩ : ∃ z, min (min i0 i1) i2 = z := ⟨_, rfl⟩
  obtain ⟨n1, hn1'⟩ : ∃ z, max (min i0 i1) (min (max i0 i1) i2) - lo = z := ⟨_, rfl⟩
  obtain ⟨n2, hn2⟩ : ∃ z, max (max i0 i1) i2 - (lo + n1) = z := ⟨_, rfl⟩
  have hs1 : lo + n1 + n2 < n := by omega
  obtain ⟨P, hP⟩ : ∃ P, 1 + lo = P := ⟨_, rfl⟩
  obtain ⟨Q, hQ⟩ : ∃ P, 1 + (lo + n1) = P := ⟨_, rfl⟩
  obtain ⟨S, hS⟩ : ∃ P, 1 + (lo + n1 + n2) = P := ⟨_, rfl⟩
  obtain ⟨mn, hmn⟩ : ∃ z, min p0 p1 = z := ⟨_, rfl⟩
  obtain ⟨mx, hmx⟩ : ∃ z, max p0 p1 = z := ⟨_, rfl⟩
  obtain ⟨md, hmd⟩ : ∃ z, min mx p2 = z := ⟨_, rfl⟩
  have E1 := minI3 (p0 : Int) p1 p2 P (by omega)
  have E2 := minI2 (p0 : Int) p1 mn (by omega)
  have E3 := maxI2 (p0 : Int) p1 mx (by omega)
  have E4 := minI2 (mx : Int) p2 md (by omega)
  have E5 := maxI2 (mn : Int) md Q (by omega)
  have E6 := maxI3 (p0 : Int) p1 p2 S (by omega)
  have HPQ := Lib.hid (And.intro hP (And.intro hQ hS))
  have HLN := Lib.hid hs1
  have hPn : P ≤ n := by omega
  have hP1 : 1 ≤ P := by omega
  have HPP := Lib.hid (show p0 ≤ 8 ∧ p1 ≤ 8 ∧ p2 ≤ 8 by omega)
  clear hi0 hi1 hi2 hlo hn1' hn2 hmn hmx hmd hp0 hp1 hp2 hl0 hl1 hl2 hP hQ hS hs1 HQ22 HQ2 HB HN HT HC hr hsm hmk b hll hL
  go_wp2_with fail
  go_quiet ((first | with_reducible exact Calls.quiet_of_same ((HB00.out _).mono (fun _ _ h => ⟨h.1, h.2.symm⟩)) | with_reducible exact Calls.quiet_of_same ((HB10.out _).mono (fun _ _ h => ⟨h.1, h.2.symm⟩)) | with_reducible exact Calls.quiet_of_same ((HB20.out _).mono (fun _ _ h => ⟨h.1, h.2.symm⟩))))
  rw [show wrap64 (p0 : Int) = (p0 : Int) by have := HPP.out; unfold wrap64; omega, show wrap64 (p1 : Int) = (p1 : Int) by have := HPP.out; unfold wrap64; omega, show wrap64 (p2 : Int) = (p2 : Int) by have := HPP.out; unfold wrap64; omega]
  have hbd : Below w2.heap.size w2 (w2.drewN nq) := ⟨rfl, rfl, rfl, Nat.le_refl _, fun _ _ => rfl⟩
  generalize w2.drewN nq = w3 at *
  obtain ⟨xa, hxa⟩ : ∃ x, L[lo]? = some x := ⟨_, List.getElem?_eq_getElem (by have := HLN.out; have := HLL.out; omega)⟩
  obtain ⟨xb, hxb⟩ : ∃ x, L[lo + n1]? = some x := ⟨_, List.getElem?_eq_getElem (by have := HLN.out; have := HLL.out; omega)⟩
  obtain ⟨xc, hxc⟩ : ∃ x, L[lo + n1 + n2]? = some x := ⟨_, List.getElem?_eq_getElem (by have := HLN.out; have := HLL.out; omega)⟩
  obtain ⟨gb, off, hsa, k0, _⟩ := rdS_cells HR.out hbd (i := lo) (x := xa) hxa
  subst hsa
  have hla := mk_at HSM.out hxa
  have hlb := mk_at HSM.out hxb
  have hlc := mk_at HSM.out hxc
  have HOK := Lib.hid (mk_oks HMK.out HSM.out)
  have hl64 : l.length ≤ 64 := by have := HMK.out.len; omega
  have hro := HMK.out.row hla nl
  have hrb := HMK.out.ch.moved_ok hla hlb hro
  have HSL := Lib.hid (HMK.out.small hla nl HN2.out.i)
  have HSLb := Lib.hid ((HSL.out).moved (a := xa.s) HMK.out hlb)
  obtain ⟨eP, eQ, eS⟩ := HPQ.out
  have HCA := Lib.hid (show Ev.carry (sms L) (P : Int) (Q : Int) (Ev.rowF nl 0 xa.s.1) = ⟨Ev.mvd xa.s.1 xb.s.1 (Ev.rowF nl 0 xa.s.1), 0⟩ by
    rw [HSM.out]; exact HMK.out.ch.carry_is hl64 hla hlb hro _ _ (by omega) (by omega))
  have HCB := Lib.hid (show Ev.carry (sms L) (Q : Int) (S : Int) (Ev.mvd xa.s.1 xb.s.1 (Ev.rowF nl 0 xa.s.1)) = ⟨Ev.mvd xa.s.1 xc.s.1 (Ev.rowF nl 0 xa.s.1), 0⟩ by
    rw [HSM.out, HMK.out.ch.carry_is hl64 hlb hlc hrb _ _ (by omega) (by omega), HMK.out.ch.parts hla hlb hlc hro])
  have HCC := Lib.hid (show Ev.carry (sms L) (P : Int) (S : Int) (Ev.rowF nl 0 xa.s.1) = ⟨Ev.mvd xa.s.1 xc.s.1 (Ev.rowF nl 0 xa.s.1), 0⟩ by
    rw [HSM.out]; exact HMK.out.ch.carry_is (n := n1 + n2) hl64 hla (by rw [← Nat.add_assoc]; exact hlc) hro _ _ (by omega) (by omega))
  have HAL := Lib.hid (show xa.s.1.length ≤ 1000 by have := (HMK.out.all _ (List.mem_of_getElem? hla)).2.1; omega)
  have HMAY : Hid (∀ c ∈ xa.s.1, Cl.may c.k = true) := Lib.hid (fun c hc => by
    obtain ⟨_, _, mm, o, _, hcl⟩ := HMK.out.all _ (List.mem_of_getElem? hla)
    exact (Cl.chk_ok (hcl.co c hc).ck).1)
  have HRL := Lib.hid (show (Ev.rowF nl 0 xa.s.1).length ≤ 1000000 by rw [Ev.rowF_len]; have := HAL.out; omega)
  have HML := Lib.hid (show (Ev.mvd xa.s.1 xb.s.1 (Ev.rowF nl 0 xa.s.1)).length ≤ 1000000 by rw [Ev.mvd_len]; have := (HMK.out.all _ (List.mem_of_getElem? hlb)).2.1; omega)
  have HML2 := Lib.hid (show (Ev.mvd xa.s.1 xc.s.1 (Ev.rowF nl 0 xa.s.1)).length ≤ 1000000 by rw [Ev.mvd_len]; have := (HMK.out.all _ (List.mem_of_getElem? hlc)).2.1; omega)
  obtain ⟨rr, hrr⟩ : ∃ r, Ev.rowF nl 0 xa.s.1 = r := ⟨_, rfl⟩
  rw [hrr] at HCA HCB HCC HSL HSLb HRL HML HML2
  have HRR := Lib.hid hrr
  generalize Ev.mvd xa.s.1 xb.s.1 rr = mb at *
  generalize Ev.mvd xa.s.1 xc.s.1 rr = mc at *
  have HBD : Hid (rr.length ≤ 1000000 ∧ (∀ c ∈ rr, Cl.I64 c.n) ∧ ∀ c ∈ rr, c.s.size ≤ 1000000) := Lib.hid ⟨HRL.out, fun c hc => (HSL.out c hc).1, fun c hc => by have := (HSL.out c hc).2; omega⟩
  have HBB : Hid (mb.length ≤ 1000000 ∧ (∀ c ∈ mb, Cl.I64 c.n) ∧ ∀ c ∈ mb, c.s.size ≤ 1000000) := Lib.hid ⟨HML.out, fun c hc => (HSLb.out c hc).1, fun c hc => by have := (HSLb.out c hc).2; omega⟩
  have hda := (HR.out.el xa (List.mem_of_getElem? hxa)).later hbd
  have HRK := Lib.hid hda.c
  have hpl : (P : Int) - 1 = (lo : Int) := by omega
  have hlon : (lo : Int) < (n : Int) := by have := HLN.out; omega
  have HR3 := Lib.hid (HR.out.later hbd)
  have HN3 := Lib.hid (HN2.out.later hbd)
  have HT3 := Lib.hid (HT2.out.later hbd)
  have HB3 := Lib.hid (up HB2.out hbd)
  obtain ⟨a1', c1, a2', c2, ⟨la, ka⟩⟩ := xa
  unfold Sx.v at HRK k0
  simp only at HRK k0 HMAY HAL HRR
  obtain ⟨p3, hp3⟩ : ∃ p, la.length = p := ⟨_, rfl⟩
  rw [hp3] at HRK k0
  have HRW := Lib.hid (lRowOf (.slice a1' p3 c1) nv la nl w3 HRK.out HN3.out.rd HAL.out HMAY.out HN3.out.i)
  rw [HRR.out] at HRW
  clear hla hlb hlc hxa hxb hxc hro hrb hrr hda HMK HSM HSL HSLb HML HRL hl64 hbd HRK hp3 HR HN2 HT2 HB2 HB00 HB10 HB20 y0 y1 y2 eP eQ eS HPQ ep0 ep1 ep2
  go_wp2_with fail
  clear k0 E1 E2 E3 E4 E5 E6
  ((with_reducible refine HRW.out.mono ?_); rintro e w4 ⟨rv, rfl, ho, b⟩)
  have HRC := Lib.hid (RdC.of ho)
  have HT4 := Lib.hid (HT3.out.later b)
  have HB4 := Lib.hid (up HB3.out b)
  have HR4 := Lib.hid (HR3.out.later b)
  have HC1 := Lib.hid (cCarryE _ L HOK.out w4 HT4.out HR4.out _ _ rv rr HRC.out HBD.out.1 HBD.out.2.1 HBD.out.2.2 _ HCA.out)
  clear HRW ho b HT3 HB3 HR3 HN3
  go_wp2_with fail
  ((with_reducible refine HC1.out.mono ?_); rintro e w5 ⟨u1, rfl, ho1, b⟩)
  simp only at ho1
  have HO1 := Lib.hid (RdC.of ho1)
  have HRC5 := Lib.hid (HRC.out.later b)
  have HT5 := Lib.hid (HT4.out.later b)
  have HB5 := Lib.hid (up HB4.out b)
  have HR5 := Lib.hid (HR4.out.later b)
  have HC2 := Lib.hid (cCarryE _ L HOK.out w5 HT5.out HR5.out _ _ u1 mb HO1.out HBB.out.1 HBB.out.2.1 HBB.out.2.2 _ HCB.out)
  clear HC1 ho1 b HRC HT4 HB4 HR4
  go_wp2_with fail
  ((with_reducible refine HC2.out.mono ?_); rintro e w6 ⟨u2, rfl, ho2, b⟩)
  simp only at ho2
  have HO2 := Lib.hid ho2
  have HRC6 := Lib.hid (HRC5.out.later b)
  have HT6 := Lib.hid (HT5.out.later b)
  have HB6 := Lib.hid (up HB5.out b)
  have HR6 := Lib.hid (HR5.out.later b)
  have HC3 := Lib.hid (cCarryE _ L HOK.out w6 HT6.out HR6.out _ _ rv rr HRC6.out HBD.out.1 HBD.out.2.1 HBD.out.2.2 _ HCC.out)
  clear HC2 ho2 b HRC5 HT5 HB5 HR5 HO1
  go_wp2_with fail
  ((with_reducible refine HC3.out.mono ?_); rintro e w7 ⟨u3, rfl, ho3, b⟩)
  simp only at ho3
  have HEQ := Lib.hid (eqRow u2 u3 mc mc w7 (RdC.of (Gn.Own.later HO2.out b)) (RdC.of ho3) HML2.out true (by simp))
  have HT7 := Lib.hid (HT6.out.later b)
  have HB7 := Lib.hid (up HB6.out b)
  clear HC3 ho3 b HRC6 HT6 HB6 HR6 HO2
  go_wp2_with fail
  ((with_reducible refine HEQ.out.mono ?_); rintro e w8 ⟨rfl, b⟩)
  have HT8 := Lib.hid (HT7.out.later b)
  have HB8 := Lib.hid (up HB7.out b)
  clear HEQ HT7 HB7 b
  go_wp2_with fail
  ((with_reducible refine (works12 w8 HT8.out).mono ?_); rintro e w9 ⟨rfl, b⟩)
  go_wp2
  go_ret
  exact ⟨rfl, up HB8.out b⟩
end Go.Proofs.YtigcgkhcbmnboaaGreatDoor
