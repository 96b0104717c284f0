/- EvOnW. -/
import Derived.Test.YtigcgkhcbmnboaaGreatDoorEvS
import Derived.Deep.DeepCutAuto
import Derived.Deep.CutBlock
/- The walk of EvolveOnce. -/
namespace Go.Proofs.YtigcgkhcbmnboaaGreatDoor
open Go.RowKit Go.Sort
set_option linter.unusedVariables false
set_option linter.unusedSimpArgs false
set_option maxRecDepth 100000

set_option maxHeartbeats 16000000 in
theorem evolveOnce (cv vv : Value) (C : List Int) (V : List Ev.V3) (a0 a1 : Int) (nv : Value) (nl : List Int) (w : World) (hs : SeedE w cv vv C V) (h0 : Cl.I64 a0) (h1 : Cl.I64 a1) (hn : NumsE w nv nl) (T : TA w) :
    Calls Tryz.prog 5 #[.agg #[cv, vv], .agg #[.int .i64 a0, .int .i64 a1], nv] w fun e w' => e = .returned (.bool true) ∧ Below w.heap.size w w' := by
  obtain ⟨ca, cc, hcv, _⟩ := Gn.Rd.form hs.c
  obtain ⟨va, vc, hvv, _⟩ := Gn.Rd.form hs.v
  obtain ⟨cn, hcn⟩ : ∃ n, C.length = n := ⟨_, rfl⟩
  obtain ⟨vn, hvn⟩ : ∃ n, V.length = n := ⟨_, rfl⟩
  rw [hcn] at hcv
  rw [hvn] at hvv
  subst hcv hvv
  have b1 := box_new w (.cells #[.slice ca cn cc, .slice va vn vc] 45)
  have b2 := up_box b1 (.cells #[.int .i64 a0, .int .i64 a1] 39)
  have q1 := (Blk.new w 45 #[.slice ca cn cc, .slice va vn vc]).later (box_new _ (.cells #[.int .i64 a0, .int .i64 a1] 39))
  have q2 := Blk.new (w.alloc (.cells #[.slice ca cn cc, .slice va vn vc] 45)) 39 #[.int .i64 a0, .int .i64 a1]
  have HS := Lib.hid (hs.later b2)
  have HN := Lib.hid (hn.later b2)
  have HT := Lib.hid (T.later b2)
  have HI := Lib.hid (And.intro h0 h1)
  have HQ1 := Lib.hid q1
  have HQ2 := Lib.hid q2
  have HB := Lib.hid b2
  clear hs hn T h0 h1 q1 q2 b1 b2 hcn hvn
  go_enter Tryz.func5, Tryz.ntmps5
  go_wp2_with fail
  obtain ⟨g1, hg1⟩ : ∃ g, (w.alloc (.cells #[.slice ca cn cc, .slice va vn vc] 45)).heap.size = g := ⟨_, rfl⟩
  have hg1' : w.heap.size + 1 = g1 := by rw [← hg1]; simp
  rw [hg1] at HQ2
  simp only [hg1']
  generalize (w.alloc (.cells #[.slice ca cn cc, .slice va vn vc] 45)).alloc (.cells #[.int .i64 a0, .int .i64 a1] 39) = w0 at *
  clear hg1 hg1'
  ((with_reducible refine (works12 w0 HT.out).mono ?_); rintro e w1 ⟨rfl, b⟩)
  have HB1 := Lib.hid (up HB.out b)
  have HN1 := Lib.hid (HN.out.later b)
  have HT1 := Lib.hid (HT.out.later b)
  have HQ11 := Lib.hid (HQ1.out.later b)
  have HQ21 := Lib.hid (HQ2.out.later b)
  have HC := Lib.hid (chainE (HS.out.later b))
  have z0 := HQ11.out.cell 0
  have z1 := HQ11.out.cell 1
  simp only [List.getElem?_cons_succ, List.getElem?_cons_zero] at z0 z1
  clear HB HN HT HQ1 HQ2 HS b
  go_wp2_with fail
  clear z0 z1
  ((with_reducible refine HC.out.mono ?_); rintro e w2 ⟨v, L, rfl, hr, hsm, b⟩)
  have hmk := Ev.mkch_is C V
  generalize Ev.mkch C V = l at *
  obtain ⟨sa, sc, rfl, _⟩ := Gn.Rd.form hr.rd
  have hll : l.length = L.length := by rw [← hsm, sms_len]
  obtain ⟨n, hL⟩ : ∃ n, L.length = n := ⟨_, rfl⟩
  have hn1 : 1 ≤ n := by have := hmk.len0; omega
  have hn8 : n ≤ 8 := by have := hmk.len; omega
  rw [hL] at hr ⊢
  have HLL := Lib.hid hL
  have HR := Lib.hid hr
  have HSM := Lib.hid hsm
  have HMK := Lib.hid hmk
  have HB2 := Lib.hid (up HB1.out b)
  have HN2 := Lib.hid (HN1.out.later b)
  have HT2 := Lib.hid (HT1.out.later b)
  have HQ22 := Lib.hid (HQ21.out.later b)
  obtain ⟨i, hi⟩ := Int.eq_ofNat_of_zero_le (Int.emod_nonneg a0 (b := (n : Int)) (by omega))
  have hil : i < n := by have := Int.emod_lt_of_pos a0 (b := (n : Int)) (by omega); omega
  have HBA := Lib.hid (fun w1 => bringAtE a0 (n : Int) (i : Int) HI.out.1 (by omega) (by omega) hi w1)
  obtain ⟨m, hm⟩ := Int.eq_ofNat_of_zero_le (Int.emod_nonneg a1 (b := (n : Int) - (1 + (i : Int)) + 1) (by omega))
  have hml : i + m < n := by have := Int.emod_lt_of_pos a1 (b := (n : Int) - (1 + (i : Int)) + 1) (by omega); omega
  have HBB := Lib.hid (fun w1 => bringAtE a1 ((n : Int) - (1 + (i : Int)) + 1) (m : Int) HI.out.2 (by omega) (by omega) hm w1)
  obtain ⟨xa, hxa⟩ : ∃ x, L[i]? = some x := ⟨_, List.getElem?_eq_getElem (by omega)⟩
  obtain ⟨xb, hxb⟩ : ∃ x, L[i + m]? = some x := ⟨_, List.getElem?_eq_getElem (by omega)⟩
  have y0 := HQ22.out.cell 0
  have y1 := HQ22.out.cell 1
  simp only [List.getElem?_cons_succ, List.getElem?_cons_zero] at y0 y1
  clear HB1 HN1 HT1 HQ11 HQ21 HC hr hsm hmk hll hL b hi hm
  go_wp2_with fail
  ((with_reducible refine (HBA.out w2).mono ?_); rintro e w' ⟨rfl, rfl⟩)
  go_wp2_with fail
  ((with_reducible refine (HBB.out w2).mono ?_); rintro e w' ⟨rfl, rfl⟩)
  clear y0 y1 HBA HBB
  obtain ⟨gb, off, hsa, _, _⟩ := rdS_cells HR.out (Below.refl _ _) (i := i) (x := xa) hxa
  subst hsa
  have hca : ∀ w1, Below w2.heap.size w2 w1 → w1.cell? ⟨gb, off + i * 2, none⟩ = some xa.v ∧ w1.cell? ⟨gb, off + i * 2 + 1, none⟩ = some xa.kv := fun w1 hb => by
    obtain ⟨b', o', e, h1, h2⟩ := rdS_cells HR.out hb (i := i) (x := xa) hxa
    injection e with e; injection e with e1 e2; subst e1 e2; exact ⟨h1, h2⟩
  have hcb : ∀ w1, Below w2.heap.size w2 w1 → w1.cell? ⟨gb, off + (i + m) * 2, none⟩ = some xb.v ∧ w1.cell? ⟨gb, off + (i + m) * 2 + 1, none⟩ = some xb.kv := fun w1 hb => by
    obtain ⟨b', o', e, h1, h2⟩ := rdS_cells HR.out hb (i := i + m) (x := xb) hxb
    injection e with e; injection e with e1 e2; subst e1 e2; exact ⟨h1, h2⟩
  have hda := HR.out.el xa (List.mem_of_getElem? hxa)
  have hdb := HR.out.el xb (List.mem_of_getElem? hxb)
  obtain ⟨⟨A, HA⟩, ⟨Bs, HBs⟩⟩ : (∃ A, xa.s = A) ∧ (∃ A, xb.s = A) := ⟨⟨_, rfl⟩, ⟨_, rfl⟩⟩
  have hla := mk_at HSM.out hxa
  have hlb := mk_at HSM.out hxb
  have HOK := Lib.hid (mk_oks HMK.out HSM.out)
  have HOA := Lib.hid (mk_ok HMK.out _ (List.mem_of_getElem? hla))
  have HOB := Lib.hid (mk_ok HMK.out _ (List.mem_of_getElem? hlb))
  have hco : (HMK.out.ch).chain (by have := HMK.out.len; omega) = (HMK.out.ch).chain (by have := HMK.out.len; omega) := rfl
  have HCH := Lib.hid (show Ev.chain (sms L) = 0 by rw [HSM.out]; exact HMK.out.ch.chain (by have := HMK.out.len; omega))
  have HST := Lib.hid (HMK.out.ch.step_is hla hlb)
  have HRO := Lib.hid (HMK.out.row hla nl)
  have HSL := Lib.hid (HMK.out.small hla nl HN2.out.i)
  have HCA := Lib.hid (show Ev.carry (sms L) (1 + (i : Int)) (1 + (i : Int) + (m : Int)) (Ev.rowF nl 0 xa.s.1) = ⟨Ev.mvd xa.s.1 xb.s.1 (Ev.rowF nl 0 xa.s.1), 0⟩ by
    rw [HSM.out]; exact HMK.out.ch.carry_is (by have := HMK.out.len; omega) hla hlb HRO.out _ _ (by omega) (by omega))
  have HMO := Lib.hid (HMK.out.ch.move_is hla hlb HRO.out)
  have hal := (HMK.out.all _ (List.mem_of_getElem? hla)).2.1
  have hmay : ∀ c ∈ xa.s.1, Cl.may c.k = true := fun c hc => by
    obtain ⟨_, _, mm, o, _, hcl⟩ := HMK.out.all _ (List.mem_of_getElem? hla)
    exact (Cl.chk_ok (hcl.co c hc).ck).1
  have HMAY := Lib.hid hmay
  have HAL := Lib.hid (show xa.s.1.length ≤ 1000 by omega)
  have hrl : (Ev.rowF nl 0 xa.s.1).length ≤ 1000000 := by rw [Ev.rowF_len]; omega
  have HRL := Lib.hid hrl
  obtain ⟨rr, hrr⟩ : ∃ r, Ev.rowF nl 0 xa.s.1 = r := ⟨_, rfl⟩
  rw [hrr] at HRO HSL HCA HMO HRL
  have HRR := Lib.hid hrr
  clear hrl hrr
  have HML := Lib.hid (show (Ev.mvd xa.s.1 xb.s.1 rr).length ≤ 1000000 by rw [Ev.mvd_len]; have := (HMK.out.all _ (List.mem_of_getElem? hlb)).2.1; omega)
  generalize Ev.mvd xa.s.1 xb.s.1 rr = mm at *
  have HDA := Lib.hid hda
  have HDB := Lib.hid hdb
  have HHA := Lib.hid hca
  have HHB := Lib.hid hcb
  clear hda hdb hca hcb hla hlb hco hmay hal hxa hxb HA HBs HMK HSM
  obtain ⟨a1', c1, a2', c2, ⟨la, ka⟩⟩ := xa
  obtain ⟨a3', c3, a4', c4, ⟨lb, kb⟩⟩ := xb
  unfold Sx.v Sx.kv at HHA HHB
  simp only at HHA HHB HMAY HAL HRL HRR HST HMO HOA HOB
  obtain ⟨j, hj⟩ : ∃ j, i + m = j := ⟨_, rfl⟩
  rw [hj] at HHB
  obtain ⟨p1, hp1⟩ : ∃ p, la.length = p := ⟨_, rfl⟩
  obtain ⟨p2, hp2⟩ : ∃ p, ka.length = p := ⟨_, rfl⟩
  obtain ⟨p3, hp3⟩ : ∃ p, lb.length = p := ⟨_, rfl⟩
  obtain ⟨p4, hp4⟩ : ∃ p, kb.length = p := ⟨_, rfl⟩
  rw [hp1, hp2] at HHA
  rw [hp3, hp4] at HHB
  have HP := Lib.hid (And.intro (And.intro hp1 hp2) (And.intro hp3 hp4))
  clear hp1 hp2 hp3 hp4
  go_upto_region 6 with fail
  obtain ⟨B, hB⟩ : ∃ B, w2.heap.size = B := ⟨_, rfl⟩
  have e39 : IntKind.i64.wrap (1 + (i : Int) - 1) = (i : Int) := by rw [IntWalk.i64_in _ ⟨by omega, by omega⟩]; omega
  have e44 : IntKind.i64.wrap (1 + (i : Int) + (m : Int) - 1) = (j : Int) := by rw [IntWalk.i64_in _ ⟨by omega, by omega⟩]; omega
  refine region_growA_merge (fun u v => Below B u v) (AB B 88 10 11 10 11 12 13 (.slice a1' p1 c1) (.slice a2' p2 c2) (.slice a3' p3 c3) (.slice a4' p4 c4)) (fun _ _ _ => True) (fun u => Below.refl B u) (fun _ _ _ h k => h.trans k) (kjI #[Spc.eq (.slice (some ⟨gb, off, none⟩) n sc), Spc.eq (.int .i64 (1 + (i : Int))), Spc.eq (.int .i64 (i : Nat)), Spc.eq (.pointer (some ⟨gb, off + i * 2, none⟩)), Spc.eq (.agg #[.slice a1' p1 c1, .slice a2' p2 c2]), Spc.eq (.slice (some ⟨gb, off, none⟩) n sc), Spc.eq (.int .i64 (1 + (i : Int) + (m : Int))), Spc.eq (.int .i64 (j : Nat)), Spc.eq (.pointer (some ⟨gb, off + j * 2, none⟩)), Spc.eq (.agg #[.slice a3' p3 c3, .slice a4' p4 c4]), Spc.any, Spc.any, Spc.any, Spc.any]) [37, 38, 39, 40, 41, 42, 43, 44, 45, 46, 10, 11] (fun ts W => ∃ p q, ts.getD 10 undef = .pointer (some ⟨p, 0, none⟩) ∧ ts.getD 11 undef = .pointer (some ⟨q, 0, none⟩) ∧ Blk W p 25 [.slice a1' p1 c1, .slice a2' p2 c2] ∧ Blk W q 25 [.slice a3' p3 c3, .slice a4' p4 c4] ∧ Below B w2 W) (by kernel_rfl) (by kernel_rfl) (by kernel_rfl) kjI_later (AB.start (by rfl) (by rw [← hB]; exact Nat.le_refl _)) ?_ ?_ ?_
  · intro QQ fd jo o a w1 ho hfd hdd hI hb hs hold hdep
    have hjo : jo < 14 := (Array.getElem?_eq_some_iff.1 ho).1
    skip
    have hbw : Below w2.heap.size w2 w1 := by rw [hB]; exact (Below.refl B w2).drew.trans hb
    obtain ⟨k0, k1⟩ := HHA.out w1 hbw
    obtain ⟨k2, k3⟩ := HHB.out w1 hbw
    have e7 : a.eval (.tmp 7) = .slice (some ⟨gb, off, none⟩) n sc := by
      show a.tmps.getD 7 undef = _
      rw [Array.getD_eq_getD_getElem?, hold 7 (by decide +kernel)]; rfl
    have e8 : a.eval (.tmp 8) = .int .i64 (1 + (i : Int)) := by
      show a.tmps.getD 8 undef = _
      rw [Array.getD_eq_getD_getElem?, hold 8 (by decide +kernel)]; rfl
    have e9 : a.eval (.tmp 9) = .int .i64 (1 + (i : Int) + (m : Int)) := by
      show a.tmps.getD 9 undef = _
      rw [Array.getD_eq_getD_getElem?, hold 9 (by decide +kernel)]; rfl
    have ec : ∀ v, a.eval (.const v) = v := fun _ => rfl
    clear hold hs
    rcases (show jo = 0 ∨ jo = 1 ∨ jo = 2 ∨ jo = 3 ∨ jo = 4 ∨ jo = 5 ∨ jo = 6 ∨ jo = 7 ∨ jo = 8 ∨ jo = 9 ∨ jo = 10 ∨ jo = 11 ∨ jo = 12 ∨ jo = 13 by omega) with rfl | rfl | rfl | rfl | rfl | rfl | rfl | rfl | rfl | rfl | rfl | rfl | rfl | rfl
    · have ho2 := ho; simp only [List.getElem?_toArray, List.getElem?_cons_succ, List.getElem?_cons_zero, Option.some.injEq] at ho2; subst ho2
      refine growA_val (I := (AB B 88 10 11 10 11 12 13 (.slice a1' p1 c1) (.slice a2' p2 c2) (.slice a3' p3 c3) (.slice a4' p4 c4))) (X := (fun _ _ _ => True)) (d := fd) (a := a) (w := w1) (.slice (some ⟨gb, off, none⟩) n sc) w1 ho rfl ?_ (Below.refl _ _) (hI.put (by decide) (by decide) (by decide) (by decide) (by decide) (by decide)) trivial rfl
      unfold execOp
      simp only [List.map_toArray, List.map_cons, List.map_nil, e7, ec]
      first | rfl | (go_simp; done) | (go_simp; rfl) | (go_simp; omega)
    · have ho2 := ho; simp only [List.getElem?_toArray, List.getElem?_cons_succ, List.getElem?_cons_zero, Option.some.injEq] at ho2; subst ho2
      refine growA_val (I := (AB B 88 10 11 10 11 12 13 (.slice a1' p1 c1) (.slice a2' p2 c2) (.slice a3' p3 c3) (.slice a4' p4 c4))) (X := (fun _ _ _ => True)) (d := fd) (a := a) (w := w1) (.int .i64 (1 + (i : Int))) w1 ho rfl ?_ (Below.refl _ _) (hI.put (by decide) (by decide) (by decide) (by decide) (by decide) (by decide)) trivial rfl
      unfold execOp
      simp only [List.map_toArray, List.map_cons, List.map_nil, e8, ec]
      first | rfl | (go_simp; done) | (go_simp; rfl) | (go_simp; omega)
    · have ho2 := ho; simp only [List.getElem?_toArray, List.getElem?_cons_succ, List.getElem?_cons_zero, Option.some.injEq] at ho2; subst ho2
      have d0 : a.eval (.tmp 38) = .int .i64 (1 + (i : Int)) := hdep ⟨1, .data⟩ (by simp) rfl
      refine growA_val (I := (AB B 88 10 11 10 11 12 13 (.slice a1' p1 c1) (.slice a2' p2 c2) (.slice a3' p3 c3) (.slice a4' p4 c4))) (X := (fun _ _ _ => True)) (d := fd) (a := a) (w := w1) (.int .i64 (i : Nat)) w1 ho rfl ?_ (Below.refl _ _) (hI.put (by decide) (by decide) (by decide) (by decide) (by decide) (by decide)) trivial rfl
      unfold execOp
      simp only [List.map_toArray, List.map_cons, List.map_nil, d0, ec]
      go_simp
      first | done | rfl | (simp only [e39]; done) | (simp only [e39]; rfl)
    · have ho2 := ho; simp only [List.getElem?_toArray, List.getElem?_cons_succ, List.getElem?_cons_zero, Option.some.injEq] at ho2; subst ho2
      have d0 : a.eval (.tmp 37) = .slice (some ⟨gb, off, none⟩) n sc := hdep ⟨0, .data⟩ (by simp) rfl
      have d1 : a.eval (.tmp 39) = .int .i64 (i : Nat) := hdep ⟨2, .data⟩ (by simp) rfl
      refine growA_val (I := (AB B 88 10 11 10 11 12 13 (.slice a1' p1 c1) (.slice a2' p2 c2) (.slice a3' p3 c3) (.slice a4' p4 c4))) (X := (fun _ _ _ => True)) (d := fd) (a := a) (w := w1) (.pointer (some ⟨gb, off + i * 2, none⟩)) w1 ho rfl ?_ (Below.refl _ _) (hI.put (by decide) (by decide) (by decide) (by decide) (by decide) (by decide)) trivial rfl
      unfold execOp
      simp only [List.map_toArray, List.map_cons, List.map_nil, d0, d1, ec]
      first | rfl | (go_simp; done) | (go_simp; rfl) | (go_simp; omega)
    · have ho2 := ho; simp only [List.getElem?_toArray, List.getElem?_cons_succ, List.getElem?_cons_zero, Option.some.injEq] at ho2; subst ho2
      have d0 : a.eval (.tmp 40) = .pointer (some ⟨gb, off + i * 2, none⟩) := hdep ⟨3, .data⟩ (by simp) rfl
      refine growA_val (I := (AB B 88 10 11 10 11 12 13 (.slice a1' p1 c1) (.slice a2' p2 c2) (.slice a3' p3 c3) (.slice a4' p4 c4))) (X := (fun _ _ _ => True)) (d := fd) (a := a) (w := w1) (.agg #[.slice a1' p1 c1, .slice a2' p2 c2]) w1 ho rfl ?_ (Below.refl _ _) (hI.put (by decide) (by decide) (by decide) (by decide) (by decide) (by decide)) trivial rfl
      unfold execOp
      simp only [List.map_toArray, List.map_cons, List.map_nil, d0, ec]
      first | rfl | (go_simp; done) | (go_simp; rfl) | (go_simp; omega)
    · have ho2 := ho; simp only [List.getElem?_toArray, List.getElem?_cons_succ, List.getElem?_cons_zero, Option.some.injEq] at ho2; subst ho2
      refine growA_val (I := (AB B 88 10 11 10 11 12 13 (.slice a1' p1 c1) (.slice a2' p2 c2) (.slice a3' p3 c3) (.slice a4' p4 c4))) (X := (fun _ _ _ => True)) (d := fd) (a := a) (w := w1) (.slice (some ⟨gb, off, none⟩) n sc) w1 ho rfl ?_ (Below.refl _ _) (hI.put (by decide) (by decide) (by decide) (by decide) (by decide) (by decide)) trivial rfl
      unfold execOp
      simp only [List.map_toArray, List.map_cons, List.map_nil, e7, ec]
      first | rfl | (go_simp; done) | (go_simp; rfl) | (go_simp; omega)
    · have ho2 := ho; simp only [List.getElem?_toArray, List.getElem?_cons_succ, List.getElem?_cons_zero, Option.some.injEq] at ho2; subst ho2
      refine growA_val (I := (AB B 88 10 11 10 11 12 13 (.slice a1' p1 c1) (.slice a2' p2 c2) (.slice a3' p3 c3) (.slice a4' p4 c4))) (X := (fun _ _ _ => True)) (d := fd) (a := a) (w := w1) (.int .i64 (1 + (i : Int) + (m : Int))) w1 ho rfl ?_ (Below.refl _ _) (hI.put (by decide) (by decide) (by decide) (by decide) (by decide) (by decide)) trivial rfl
      unfold execOp
      simp only [List.map_toArray, List.map_cons, List.map_nil, e9, ec]
      first | rfl | (go_simp; done) | (go_simp; rfl) | (go_simp; omega)
    · have ho2 := ho; simp only [List.getElem?_toArray, List.getElem?_cons_succ, List.getElem?_cons_zero, Option.some.injEq] at ho2; subst ho2
      have d0 : a.eval (.tmp 43) = .int .i64 (1 + (i : Int) + (m : Int)) := hdep ⟨6, .data⟩ (by simp) rfl
      refine growA_val (I := (AB B 88 10 11 10 11 12 13 (.slice a1' p1 c1) (.slice a2' p2 c2) (.slice a3' p3 c3) (.slice a4' p4 c4))) (X := (fun _ _ _ => True)) (d := fd) (a := a) (w := w1) (.int .i64 (j : Nat)) w1 ho rfl ?_ (Below.refl _ _) (hI.put (by decide) (by decide) (by decide) (by decide) (by decide) (by decide)) trivial rfl
      unfold execOp
      simp only [List.map_toArray, List.map_cons, List.map_nil, d0, ec]
      go_simp
      first | done | rfl | (simp only [e44]; done) | (simp only [e44]; rfl)
    · have ho2 := ho; simp only [List.getElem?_toArray, List.getElem?_cons_succ, List.getElem?_cons_zero, Option.some.injEq] at ho2; subst ho2
      have d0 : a.eval (.tmp 42) = .slice (some ⟨gb, off, none⟩) n sc := hdep ⟨5, .data⟩ (by simp) rfl
      have d1 : a.eval (.tmp 44) = .int .i64 (j : Nat) := hdep ⟨7, .data⟩ (by simp) rfl
      refine growA_val (I := (AB B 88 10 11 10 11 12 13 (.slice a1' p1 c1) (.slice a2' p2 c2) (.slice a3' p3 c3) (.slice a4' p4 c4))) (X := (fun _ _ _ => True)) (d := fd) (a := a) (w := w1) (.pointer (some ⟨gb, off + j * 2, none⟩)) w1 ho rfl ?_ (Below.refl _ _) (hI.put (by decide) (by decide) (by decide) (by decide) (by decide) (by decide)) trivial rfl
      unfold execOp
      simp only [List.map_toArray, List.map_cons, List.map_nil, d0, d1, ec]
      first | rfl | (go_simp; done) | (go_simp; rfl) | (go_simp; omega)
    · have ho2 := ho; simp only [List.getElem?_toArray, List.getElem?_cons_succ, List.getElem?_cons_zero, Option.some.injEq] at ho2; subst ho2
      have d0 : a.eval (.tmp 45) = .pointer (some ⟨gb, off + j * 2, none⟩) := hdep ⟨8, .data⟩ (by simp) rfl
      refine growA_val (I := (AB B 88 10 11 10 11 12 13 (.slice a1' p1 c1) (.slice a2' p2 c2) (.slice a3' p3 c3) (.slice a4' p4 c4))) (X := (fun _ _ _ => True)) (d := fd) (a := a) (w := w1) (.agg #[.slice a3' p3 c3, .slice a4' p4 c4]) w1 ho rfl ?_ (Below.refl _ _) (hI.put (by decide) (by decide) (by decide) (by decide) (by decide) (by decide)) trivial rfl
      unfold execOp
      simp only [List.map_toArray, List.map_cons, List.map_nil, d0, ec]
      first | rfl | (go_simp; done) | (go_simp; rfl) | (go_simp; omega)
    · have ho2 := ho; simp only [List.getElem?_toArray, List.getElem?_cons_succ, List.getElem?_cons_zero, Option.some.injEq] at ho2; subst ho2
      refine growA_val (I := (AB B 88 10 11 10 11 12 13 (.slice a1' p1 c1) (.slice a2' p2 c2) (.slice a3' p3 c3) (.slice a4' p4 c4))) (X := (fun _ _ _ => True)) (d := fd) (a := a) (w := w1) (.pointer (some ⟨w1.heap.size, 0, none⟩)) (w1.alloc (.cells #[.slice none 0 0, .slice none 0 0] 25)) ho rfl ?_ ((Below.refl B w1).alloc hI.bz _) (hI.newA (by decide) (by decide) (by decide) (by decide) (by decide) hfd) trivial trivial
      unfold execOp
      go_simp
      first | done | rfl
    · have ho2 := ho; simp only [List.getElem?_toArray, List.getElem?_cons_succ, List.getElem?_cons_zero, Option.some.injEq] at ho2; subst ho2
      refine growA_val (I := (AB B 88 10 11 10 11 12 13 (.slice a1' p1 c1) (.slice a2' p2 c2) (.slice a3' p3 c3) (.slice a4' p4 c4))) (X := (fun _ _ _ => True)) (d := fd) (a := a) (w := w1) (.pointer (some ⟨w1.heap.size, 0, none⟩)) (w1.alloc (.cells #[.slice none 0 0, .slice none 0 0] 25)) ho rfl ?_ ((Below.refl B w1).alloc hI.bz _) (hI.newB (by decide) (by decide) (by decide) (by decide) (by decide) hfd) trivial trivial
      unfold execOp
      go_simp
      first | done | rfl
    · have ho2 := ho; simp only [List.getElem?_toArray, List.getElem?_cons_succ, List.getElem?_cons_zero, Option.some.injEq] at ho2; subst ho2
      have hjd : fd 10 = true := hdd ⟨10, .data⟩ (by simp) rfl
      obtain ⟨p, hp, hpB, hpz⟩ := hI.pa hjd
      rw [hfd] at hpz
      simp only [Bool.false_eq_true, if_false, nilC] at hpz
      have d1 : a.eval (.tmp 10) = .pointer (some ⟨p, 0, none⟩) := hp
      have d2 : a.eval (.tmp 41) = .agg #[.slice a1' p1 c1, .slice a2' p2 c2] := hdep ⟨4, .data⟩ (by simp) rfl
      have f0 := hpz.frozen 0
      have f1 := hpz.frozen 1
      have g0 := hpz.cell 0
      have g1 := hpz.cell 1
      simp only [List.getElem?_cons_succ, List.getElem?_cons_zero] at g0 g1
      refine growA_skip (I := (AB B 88 10 11 10 11 12 13 (.slice a1' p1 c1) (.slice a2' p2 c2) (.slice a3' p3 c3) (.slice a4' p4 c4))) (X := (fun _ _ _ => True)) (d := fd) (a := a) (w := w1) ((w1.setCell ⟨p, 0, none⟩ (.slice a1' p1 c1)).setCell ⟨p, 1, none⟩ (.slice a2' p2 c2)) ho rfl rfl ?_ (((Below.refl B w1).setCell hpB _).setCell hpB _) (hI.fillA (by decide) (by decide) (by decide) hjd hfd hp) trivial trivial
      unfold execOp
      simp only [d1, d2, ec]
      go_simp
    · have ho2 := ho; simp only [List.getElem?_toArray, List.getElem?_cons_succ, List.getElem?_cons_zero, Option.some.injEq] at ho2; subst ho2
      have hjd : fd 11 = true := hdd ⟨11, .data⟩ (by simp) rfl
      obtain ⟨p, hp, hpB, hpz⟩ := hI.pb hjd
      rw [hfd] at hpz
      simp only [Bool.false_eq_true, if_false, nilC] at hpz
      have d1 : a.eval (.tmp 11) = .pointer (some ⟨p, 0, none⟩) := hp
      have d2 : a.eval (.tmp 46) = .agg #[.slice a3' p3 c3, .slice a4' p4 c4] := hdep ⟨9, .data⟩ (by simp) rfl
      have f0 := hpz.frozen 0
      have f1 := hpz.frozen 1
      have g0 := hpz.cell 0
      have g1 := hpz.cell 1
      simp only [List.getElem?_cons_succ, List.getElem?_cons_zero] at g0 g1
      refine growA_skip (I := (AB B 88 10 11 10 11 12 13 (.slice a1' p1 c1) (.slice a2' p2 c2) (.slice a3' p3 c3) (.slice a4' p4 c4))) (X := (fun _ _ _ => True)) (d := fd) (a := a) (w := w1) ((w1.setCell ⟨p, 0, none⟩ (.slice a3' p3 c3)).setCell ⟨p, 1, none⟩ (.slice a4' p4 c4)) ho rfl rfl ?_ (((Below.refl B w1).setCell hpB _).setCell hpB _) (hI.fillB (by decide) (by decide) (by decide) hjd hfd hp) trivial trivial
      unfold execOp
      simp only [d1, d2, ec]
      go_simp
  · intro a w1 hI hb hj
    obtain ⟨p, h1, _, h2⟩ := hI.pa (by decide)
    obtain ⟨q, q1, _, q2⟩ := hI.pb (by decide)
    rw [if_pos (by decide)] at h2 q2
    exact ⟨p, q, h1, q1, h2, q2, (Below.refl B w2).drew.trans hb⟩
  rintro ts w3 ⟨gp, gq, h10, h11, hx, hy, hb3⟩
  simp only [fill, List.setIfInBounds_toArray, List.set_cons_succ, List.set_cons_zero]
  rw [h10, h11]
  rw [← hB] at hb3
  have HDA3 := Lib.hid (HDA.out.later hb3)
  have HDB3 := Lib.hid (HDB.out.later hb3)
  have HPA := Lib.hid (pr_mk HDA3.out HP.out.1)
  have HPB := Lib.hid (pr_mk HDB3.out HP.out.2)
  have HRK := Lib.hid HDA3.out.c
  unfold Sx.v at HRK
  simp only at HRK
  rw [HP.out.1.1] at HRK
  have HN3 := Lib.hid (HN2.out.later hb3)
  have HT3 := Lib.hid (HT2.out.later hb3)
  have HB3 := Lib.hid (up HB2.out hb3)
  have HR3 := Lib.hid (HR.out.later hb3)
  have HX := Lib.hid hx
  have HY := Lib.hid hy
  have HRW := Lib.hid (lRowOf (.slice a1' p1 c1) nv la nl w3 HRK.out HN3.out.rd HAL.out HMAY.out HN3.out.i)
  rw [HRR.out] at HRW
  have x0 := hx.cell 0
  simp only [List.getElem?_cons_succ, List.getElem?_cons_zero] at x0
  clear h10 h11 hx hy hb3 HN2 HT2 HB2 HR HDA HDB HRK e39 e44 hB HQ22
  go_wp2_with fail
  clear x0
  ((with_reducible refine HRW.out.mono ?_); rintro e w4 ⟨rv, rfl, ho, b⟩)
  have HRC := Lib.hid (RdC.of ho)
  have HT4 := Lib.hid (HT3.out.later b)
  have HB4 := Lib.hid (up HB3.out b)
  have HR4 := Lib.hid (HR3.out.later b)
  have HX4 := Lib.hid (HX.out.later b)
  have HY4 := Lib.hid (HY.out.later b)
  have HPA4 := Lib.hid (HPA.out.later b)
  have HPB4 := Lib.hid (HPB.out.later b)
  have HBD : Hid (rr.length ≤ 1000000 ∧ (∀ c ∈ rr, Cl.I64 c.n) ∧ ∀ c ∈ rr, c.s.size ≤ 1000000) := Lib.hid ⟨HRL.out, fun c hc => (HSL.out c hc).1, fun c hc => by have := (HSL.out c hc).2; omega⟩
  have HCC := Lib.hid (cCarryE _ L HOK.out w4 HT4.out HR4.out _ _ rv rr HRC.out HBD.out.1 HBD.out.2.1 HBD.out.2.2 _ HCA.out)
  clear HRW ho b HT3 HB3 HR3 HX HY HPA HPB HN3
  go_wp2_with fail
  ((with_reducible refine HCC.out.mono ?_); rintro e w5 ⟨u1, rfl, ho1, b⟩)
  simp only at ho1
  have HO1 := Lib.hid ho1
  have HRC5 := Lib.hid (HRC.out.later b)
  have HT5 := Lib.hid (HT4.out.later b)
  have HB5 := Lib.hid (up HB4.out b)
  have HR5 := Lib.hid (HR4.out.later b)
  have HX5 := Lib.hid (HX4.out.later b)
  have HY5 := Lib.hid (HY4.out.later b)
  have HPA5 := Lib.hid (HPA4.out.later b)
  have HPB5 := Lib.hid (HPB4.out.later b)
  have HMV := Lib.hid (mvL _ _ HOA.out HOB.out w5 HT5.out HPA5.out HPB5.out rv rr HRC5.out HBD.out _ HMO.out)
  have x0 := HX5.out.cell 0
  have x1 := HX5.out.cell 1
  have y0 := HY5.out.cell 0
  have y1 := HY5.out.cell 1
  simp only [List.getElem?_cons_succ, List.getElem?_cons_zero] at x0 x1 y0 y1
  clear HCC ho1 b HRC HT4 HB4 HR4 HX4 HY4 HPA4 HPB4
  go_wp2_with fail
  clear x0 x1 y0 y1
  ((with_reducible refine HMV.out.mono ?_); rintro e w6 ⟨u2, rfl, ho2, b⟩)
  simp only at ho2
  have HO2 := Lib.hid (RdC.of ho2)
  have HO16 := Lib.hid (RdC.of (Gn.Own.later HO1.out b))
  have HT6 := Lib.hid (HT5.out.later b)
  have HB6 := Lib.hid (up HB5.out b)
  have HR6 := Lib.hid (HR5.out.later b)
  have HX6 := Lib.hid (HX5.out.later b)
  have HY6 := Lib.hid (HY5.out.later b)
  have HPA6 := Lib.hid (HPA5.out.later b)
  have HPB6 := Lib.hid (HPB5.out.later b)
  have HCH6 := Lib.hid (cChainE _ L HOK.out w6 HT6.out HR6.out 0 HCH.out)
  clear HMV ho2 b HRC5 HT5 HB5 HR5 HX5 HY5 HPA5 HPB5 HO1
  go_wp2_with fail
  ((with_reducible refine HCH6.out.mono ?_); rintro e w7 ⟨rfl, b⟩)
  have HO27 := Lib.hid (HO2.out.later b)
  have HO17 := Lib.hid (HO16.out.later b)
  have HB7 := Lib.hid (up HB6.out b)
  have HST7 := Lib.hid (stL _ _ HOA.out HOB.out w7 (HT6.out.later b) (HPA6.out.later b) (HPB6.out.later b) 0 HST.out)
  have HX7 := Lib.hid (HX6.out.later b)
  have HY7 := Lib.hid (HY6.out.later b)
  have x0 := HX7.out.cell 0
  have x1 := HX7.out.cell 1
  have y0 := HY7.out.cell 0
  have y1 := HY7.out.cell 1
  simp only [List.getElem?_cons_succ, List.getElem?_cons_zero] at x0 x1 y0 y1
  clear HCH6 b HO2 HO16 HB6 HT6 HR6 HX6 HY6 HPA6 HPB6
  go_wp2_with fail
  clear x0 x1 y0 y1
  ((with_reducible refine HST7.out.mono ?_); rintro e w8 ⟨rfl, b⟩)
  have HEQ := Lib.hid (eqRow u1 u2 mm mm w8 (HO17.out.later b) (HO27.out.later b) HML.out true (by simp))
  have HB8 := Lib.hid (up HB7.out b)
  clear HST7 b HO17 HO27 HB7 HX7 HY7
  go_wp2_with fail
  ((with_reducible refine HEQ.out.mono ?_); rintro e w9 ⟨rfl, b⟩)
  go_wp2
  go_ret
  exact ⟨rfl, up HB8.out b⟩
end Go.Proofs.YtigcgkhcbmnboaaGreatDoor
