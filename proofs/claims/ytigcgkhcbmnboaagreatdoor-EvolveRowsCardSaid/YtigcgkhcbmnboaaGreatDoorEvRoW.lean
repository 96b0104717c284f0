/- EvRoW. -/
import Derived.Test.YtigcgkhcbmnboaaGreatDoorEvS
import Derived.Test.YtigcgkhcbmnboaaGreatDoorEvk
import Derived.Test.YtigcgkhcbmnboaaGreatDoorEvc
import Derived.Test.YtigcgkhcbmnboaaGreatDoorEva
import Derived.Deep.DeepCutAuto
import Derived.Deep.CutBlock
/- The walk of EvolveRows. -/
namespace Go.Proofs.YtigcgkhcbmnboaaGreatDoor
open Go.RowKit Go.Sort
set_option linter.unusedVariables false
set_option linter.unusedSimpArgs false
set_option maxRecDepth 100000

theorem min_is_EvolveRows (a b c : Int) (h : min a b = c) (w : World) : (Builtin.min_ #[3, 3] 3 #[.int .i64 a, .int .i64 b]).run Tryz.prog w = .ok (.int .i64 c) w := by
  rw [← h]
  simp [Builtin.min_, Builtin.min2]
  repeat' split
  all_goals omega
set_option maxHeartbeats 16000000 in
theorem evolveRows (cv vv : Value) (C : List Int) (V : List Ev.V3) (at' : Int) (nv : Value) (nl : List Int) (w : World) (hs : SeedE w cv vv C V) (h0 : -9223372036854775808 ≤ at') (h1 : at' ≤ 9223372036854775807) (hn : NumsE w nv nl) (T : TA w) :
    Calls Tryz.prog 6 #[.agg #[cv, vv], .int .i64 at', nv] w fun e w' => e = .returned (.bool true) ∧ Below w.heap.size w w' := by
  obtain ⟨ca, cc, hcv, _⟩ := Gn.Rd.form hs.c
  obtain ⟨va, vc, hvv, _⟩ := Gn.Rd.form hs.v
  obtain ⟨cn, hcn⟩ : ∃ n, C.length = n := ⟨_, rfl⟩
  obtain ⟨vn, hvn⟩ : ∃ n, V.length = n := ⟨_, rfl⟩
  rw [hcn] at hcv
  rw [hvn] at hvv
  subst hcv hvv
  have b2 := box_new w (.cells #[.slice ca cn cc, .slice va vn vc] 45)
  have q1 := Blk.new w 45 #[.slice ca cn cc, .slice va vn vc]
  have HN := Lib.hid (hn.later b2)
  have HT := Lib.hid (T.later b2)
  have HB := Lib.hid b2
  have HC := Lib.hid (chainE (hs.later b2))
  have z0 := q1.cell 0
  have z1 := q1.cell 1
  simp only [List.getElem?_cons_succ, List.getElem?_cons_zero] at z0 z1
  clear hs hn T q1 b2 hcn hvn
  go_enter Tryz.func6, Tryz.ntmps6
  go_wp2_with fail
  generalize w.alloc (.cells #[.slice ca cn cc, .slice va vn vc] 45) = w0 at *
  clear z0 z1
  ((with_reducible refine HC.out.mono ?_); rintro e w2 ⟨v, L, rfl, hr, hsm, b⟩)
  have hmk := Ev.mkch_is C V
  generalize Ev.mkch C V = l at *
  obtain ⟨sa, sc, rfl, _⟩ := Gn.Rd.form hr.rd
  have hll : l.length = L.length := by rw [← hsm, sms_len]
  obtain ⟨n, hL⟩ : ∃ n, L.length = n := ⟨_, rfl⟩
  have hn1 : 1 ≤ n := by have := hmk.len0; omega
  have hn8 : n ≤ 8 := by have := hmk.len; omega
  rw [hL] at hr ⊢
  have HLL := Lib.hid hL
  have HR := Lib.hid hr
  have HSM := Lib.hid hsm
  have HMK := Lib.hid hmk
  have HB2 := Lib.hid (up HB.out b)
  have HN2 := Lib.hid (HN.out.later b)
  have HT2 := Lib.hid (HT.out.later b)
  obtain ⟨i, hi⟩ := Int.eq_ofNat_of_zero_le (Int.emod_nonneg at' (b := (n : Int)) (by omega))
  have hil : i < n := by have := Int.emod_lt_of_pos at' (b := (n : Int)) (by omega); omega
  have HBA := Lib.hid (fun w1 => bringAtE at' (n : Int) (i : Int) ⟨h0, h1⟩ (by omega) (by omega) hi w1)
  obtain ⟨j, hj⟩ : ∃ j, min (i + 1) (n - 1) = j := ⟨_, rfl⟩
  obtain ⟨m, hm⟩ : ∃ m, i + m = j := ⟨j - i, by omega⟩
  have hjl : j < n := by omega
  have HMN := Lib.hid (min_is_EvolveRows ((i : Int) + 1) ((n : Int) - 1) (j : Int) (by omega))
  obtain ⟨xa, hxa⟩ : ∃ x, L[i]? = some x := ⟨_, List.getElem?_eq_getElem (by omega)⟩
  obtain ⟨xb, hxb⟩ : ∃ x, L[j]? = some x := ⟨_, List.getElem?_eq_getElem (by omega)⟩
  clear HB HN HT HC hr hsm hmk hll hL b hi hj h0 h1
  go_wp2_with fail
  ((with_reducible refine (HBA.out w2).mono ?_); rintro e w' ⟨rfl, rfl⟩)
  clear HBA
  obtain ⟨gb, off, hsa, _, _⟩ := rdS_cells HR.out (Below.refl _ _) (i := i) (x := xa) hxa
  subst hsa
  have hca : ∀ w1, Below w2.heap.size w2 w1 → w1.cell? ⟨gb, off + i * 2, none⟩ = some xa.v ∧ w1.cell? ⟨gb, off + i * 2 + 1, none⟩ = some xa.kv := fun w1 hb => by
    obtain ⟨b', o', e, h1, h2⟩ := rdS_cells HR.out hb (i := i) (x := xa) hxa
    injection e with e; injection e with e1 e2; subst e1 e2; exact ⟨h1, h2⟩
  have hcb : ∀ w1, Below w2.heap.size w2 w1 → w1.cell? ⟨gb, off + j * 2, none⟩ = some xb.v ∧ w1.cell? ⟨gb, off + j * 2 + 1, none⟩ = some xb.kv := fun w1 hb => by
    obtain ⟨b', o', e, h1, h2⟩ := rdS_cells HR.out hb (i := j) (x := xb) hxb
    injection e with e; injection e with e1 e2; subst e1 e2; exact ⟨h1, h2⟩
  have hda := HR.out.el xa (List.mem_of_getElem? hxa)
  have hdb := HR.out.el xb (List.mem_of_getElem? hxb)
  have hla := mk_at HSM.out hxa
  have hlb : l[i + m]? = some xb.s := by rw [hm]; exact mk_at HSM.out hxb
  have HOA := Lib.hid (mk_ok HMK.out _ (List.mem_of_getElem? hla))
  have HOB := Lib.hid (mk_ok HMK.out _ (List.mem_of_getElem? hlb))
  have HRO := Lib.hid (HMK.out.row hla nl)
  have HSL := Lib.hid (HMK.out.small hla nl HN2.out.i)
  have HMO := Lib.hid (HMK.out.ch.move_is hla hlb HRO.out)
  have HLA := Lib.hid hla
  have HLB := Lib.hid hlb
  have HMAY : Hid (∀ c ∈ xa.s.1, Cl.may c.k = true) := Lib.hid (fun c hc => by
    obtain ⟨_, _, mm, o, _, hcl⟩ := HMK.out.all _ (List.mem_of_getElem? hla)
    exact (Cl.chk_ok (hcl.co c hc).ck).1)
  have HAL := Lib.hid (show xa.s.1.length ≤ 1000 by have := (HMK.out.all _ (List.mem_of_getElem? hla)).2.1; omega)
  have HBL := Lib.hid (show xb.s.1.length ≤ 1000 by have := (HMK.out.all _ (List.mem_of_getElem? hlb)).2.1; omega)
  have HRL := Lib.hid (show (Ev.rowF nl 0 xa.s.1).length = xa.s.1.length by rw [Ev.rowF_len])
  obtain ⟨rr, hrr⟩ : ∃ r, Ev.rowF nl 0 xa.s.1 = r := ⟨_, rfl⟩
  rw [hrr] at HRO HSL HMO HRL
  have HRR := Lib.hid hrr
  clear hrr
  have HDA := Lib.hid hda
  have HDB := Lib.hid hdb
  have HHA := Lib.hid hca
  have HHB := Lib.hid hcb
  clear hda hdb hca hcb hla hlb hxa hxb hm
  obtain ⟨a1', c1, a2', c2, ⟨la, ka⟩⟩ := xa
  obtain ⟨a3', c3, a4', c4, ⟨lb, kb⟩⟩ := xb
  unfold Sx.v Sx.kv at HHA HHB
  simp only at HHA HHB HMAY HAL HBL HRL HRR HMO HOA HOB HRO HLA HLB
  obtain ⟨p1, hp1⟩ : ∃ p, la.length = p := ⟨_, rfl⟩
  obtain ⟨p2, hp2⟩ : ∃ p, ka.length = p := ⟨_, rfl⟩
  obtain ⟨p3, hp3⟩ : ∃ p, lb.length = p := ⟨_, rfl⟩
  obtain ⟨p4, hp4⟩ : ∃ p, kb.length = p := ⟨_, rfl⟩
  rw [hp1, hp2] at HHA
  rw [hp3, hp4] at HHB
  have HP := Lib.hid (And.intro (And.intro hp1 hp2) (And.intro hp3 hp4))
  clear hp1 hp2 hp3 hp4
  go_upto_region 3 with fail
  obtain ⟨B, hB⟩ : ∃ B, w2.heap.size = B := ⟨_, rfl⟩
  have e30 : IntKind.i64.wrap ((i : Int) + 1) = (i : Int) + 1 := by rw [IntWalk.i64_in _ ⟨by omega, by omega⟩]
  have e33 : IntKind.i64.wrap ((n : Int) - 1) = (n : Int) - 1 := by rw [IntWalk.i64_in _ ⟨by omega, by omega⟩]
  have M := HMN.out
  refine region_growA_merge (fun u v => Below B u v) (AB B 109 9 10 13 14 15 16 (.slice a1' p1 c1) (.slice a2' p2 c2) (.slice a3' p3 c3) (.slice a4' p4 c4)) (fun _ _ _ => True) (fun u => Below.refl B u) (fun _ _ _ h k => h.trans k) (kjI #[Spc.eq (.slice (some ⟨gb, off, none⟩) n sc), Spc.eq (.int .i64 (i : Nat)), Spc.eq (.pointer (some ⟨gb, off + i * 2, none⟩)), Spc.eq (.agg #[.slice a1' p1 c1, .slice a2' p2 c2]), Spc.eq (.slice (some ⟨gb, off, none⟩) n sc), Spc.eq (.int .i64 (i : Nat)), Spc.eq (.int .i64 ((i : Int) + 1)), Spc.eq (.slice (some ⟨gb, off, none⟩) n sc), Spc.eq (.int .i64 (n : Nat)), Spc.eq (.int .i64 ((n : Int) - 1)), Spc.eq (.int .i64 (j : Nat)), Spc.eq (.pointer (some ⟨gb, off + j * 2, none⟩)), Spc.eq (.agg #[.slice a3' p3 c3, .slice a4' p4 c4]), Spc.any, Spc.any, Spc.any, Spc.any]) [26, 27, 28, 29, 30, 31, 32, 33, 34, 35, 36, 37, 38, 9, 10] (fun ts W => ∃ p q, ts.getD 9 undef = .pointer (some ⟨p, 0, none⟩) ∧ ts.getD 10 undef = .pointer (some ⟨q, 0, none⟩) ∧ Blk W p 25 [.slice a1' p1 c1, .slice a2' p2 c2] ∧ Blk W q 25 [.slice a3' p3 c3, .slice a4' p4 c4] ∧ Below B w2 W) (by kernel_rfl) (by kernel_rfl) (by kernel_rfl) kjI_later (AB.start (by rfl) (by rw [← hB]; exact Nat.le_refl _)) ?_ ?_ ?_
  · intro QQ fd jo o a w1 ho hfd hdd hI hb hs hold hdep
    have hjo : jo < 17 := (Array.getElem?_eq_some_iff.1 ho).1
    skip
    have hbw : Below w2.heap.size w2 w1 := by rw [hB]; exact (Below.refl B w2).drew.trans hb
    obtain ⟨k0, k1⟩ := HHA.out w1 hbw
    obtain ⟨k2, k3⟩ := HHB.out w1 hbw
    have e7 : a.eval (.tmp 7) = .slice (some ⟨gb, off, none⟩) n sc := by
      show a.tmps.getD 7 undef = _
      rw [Array.getD_eq_getD_getElem?, hold 7 (by decide +kernel)]; rfl
    have e8 : a.eval (.tmp 8) = .int .i64 (i : Nat) := by
      show a.tmps.getD 8 undef = _
      rw [Array.getD_eq_getD_getElem?, hold 8 (by decide +kernel)]; rfl
    have ec : ∀ v, a.eval (.const v) = v := fun _ => rfl
    clear hold hs
    rcases (show jo = 0 ∨ jo = 1 ∨ jo = 2 ∨ jo = 3 ∨ jo = 4 ∨ jo = 5 ∨ jo = 6 ∨ jo = 7 ∨ jo = 8 ∨ jo = 9 ∨ jo = 10 ∨ jo = 11 ∨ jo = 12 ∨ jo = 13 ∨ jo = 14 ∨ jo = 15 ∨ jo = 16 by omega) with rfl | rfl | rfl | rfl | rfl | rfl | rfl | rfl | rfl | rfl | rfl | rfl | rfl | rfl | rfl | rfl | rfl
    · have ho2 := ho; simp only [List.getElem?_toArray, List.getElem?_cons_succ, List.getElem?_cons_zero, Option.some.injEq] at ho2; subst ho2
      refine growA_val (I := (AB B 109 9 10 13 14 15 16 (.slice a1' p1 c1) (.slice a2' p2 c2) (.slice a3' p3 c3) (.slice a4' p4 c4))) (X := (fun _ _ _ => True)) (d := fd) (a := a) (w := w1) (.slice (some ⟨gb, off, none⟩) n sc) w1 ho rfl ?_ (Below.refl _ _) (hI.put (by decide) (by decide) (by decide) (by decide) (by decide) (by decide)) trivial rfl
      unfold execOp
      simp only [List.map_toArray, List.map_cons, List.map_nil, e7, ec]
      first | rfl | (go_simp; done) | (go_simp; rfl) | (go_simp; omega)
    · have ho2 := ho; simp only [List.getElem?_toArray, List.getElem?_cons_succ, List.getElem?_cons_zero, Option.some.injEq] at ho2; subst ho2
      refine growA_val (I := (AB B 109 9 10 13 14 15 16 (.slice a1' p1 c1) (.slice a2' p2 c2) (.slice a3' p3 c3) (.slice a4' p4 c4))) (X := (fun _ _ _ => True)) (d := fd) (a := a) (w := w1) (.int .i64 (i : Nat)) w1 ho rfl ?_ (Below.refl _ _) (hI.put (by decide) (by decide) (by decide) (by decide) (by decide) (by decide)) trivial rfl
      unfold execOp
      simp only [List.map_toArray, List.map_cons, List.map_nil, e8, ec]
      first | rfl | (go_simp; done) | (go_simp; rfl) | (go_simp; omega)
    · have ho2 := ho; simp only [List.getElem?_toArray, List.getElem?_cons_succ, List.getElem?_cons_zero, Option.some.injEq] at ho2; subst ho2
      have d0 : a.eval (.tmp 26) = .slice (some ⟨gb, off, none⟩) n sc := hdep ⟨0, .data⟩ (by simp) rfl
      have d1 : a.eval (.tmp 27) = .int .i64 (i : Nat) := hdep ⟨1, .data⟩ (by simp) rfl
      refine growA_val (I := (AB B 109 9 10 13 14 15 16 (.slice a1' p1 c1) (.slice a2' p2 c2) (.slice a3' p3 c3) (.slice a4' p4 c4))) (X := (fun _ _ _ => True)) (d := fd) (a := a) (w := w1) (.pointer (some ⟨gb, off + i * 2, none⟩)) w1 ho rfl ?_ (Below.refl _ _) (hI.put (by decide) (by decide) (by decide) (by decide) (by decide) (by decide)) trivial rfl
      unfold execOp
      simp only [List.map_toArray, List.map_cons, List.map_nil, d0, d1, ec]
      first | rfl | (go_simp; done) | (go_simp; rfl) | (go_simp; omega)
    · have ho2 := ho; simp only [List.getElem?_toArray, List.getElem?_cons_succ, List.getElem?_cons_zero, Option.some.injEq] at ho2; subst ho2
      have d0 : a.eval (.tmp 28) = .pointer (some ⟨gb, off + i * 2, none⟩) := hdep ⟨2, .data⟩ (by simp) rfl
      refine growA_val (I := (AB B 109 9 10 13 14 15 16 (.slice a1' p1 c1) (.slice a2' p2 c2) (.slice a3' p3 c3) (.slice a4' p4 c4))) (X := (fun _ _ _ => True)) (d := fd) (a := a) (w := w1) (.agg #[.slice a1' p1 c1, .slice a2' p2 c2]) w1 ho rfl ?_ (Below.refl _ _) (hI.put (by decide) (by decide) (by decide) (by decide) (by decide) (by decide)) trivial rfl
      unfold execOp
      simp only [List.map_toArray, List.map_cons, List.map_nil, d0, ec]
      first | rfl | (go_simp; done) | (go_simp; rfl) | (go_simp; omega)
    · have ho2 := ho; simp only [List.getElem?_toArray, List.getElem?_cons_succ, List.getElem?_cons_zero, Option.some.injEq] at ho2; subst ho2
      refine growA_val (I := (AB B 109 9 10 13 14 15 16 (.slice a1' p1 c1) (.slice a2' p2 c2) (.slice a3' p3 c3) (.slice a4' p4 c4))) (X := (fun _ _ _ => True)) (d := fd) (a := a) (w := w1) (.slice (some ⟨gb, off, none⟩) n sc) w1 ho rfl ?_ (Below.refl _ _) (hI.put (by decide) (by decide) (by decide) (by decide) (by decide) (by decide)) trivial rfl
      unfold execOp
      simp only [List.map_toArray, List.map_cons, List.map_nil, e7, ec]
      first | rfl | (go_simp; done) | (go_simp; rfl) | (go_simp; omega)
    · have ho2 := ho; simp only [List.getElem?_toArray, List.getElem?_cons_succ, List.getElem?_cons_zero, Option.some.injEq] at ho2; subst ho2
      refine growA_val (I := (AB B 109 9 10 13 14 15 16 (.slice a1' p1 c1) (.slice a2' p2 c2) (.slice a3' p3 c3) (.slice a4' p4 c4))) (X := (fun _ _ _ => True)) (d := fd) (a := a) (w := w1) (.int .i64 (i : Nat)) w1 ho rfl ?_ (Below.refl _ _) (hI.put (by decide) (by decide) (by decide) (by decide) (by decide) (by decide)) trivial rfl
      unfold execOp
      simp only [List.map_toArray, List.map_cons, List.map_nil, e8, ec]
      first | rfl | (go_simp; done) | (go_simp; rfl) | (go_simp; omega)
    · have ho2 := ho; simp only [List.getElem?_toArray, List.getElem?_cons_succ, List.getElem?_cons_zero, Option.some.injEq] at ho2; subst ho2
      have d0 : a.eval (.tmp 31) = .int .i64 (i : Nat) := hdep ⟨5, .data⟩ (by simp) rfl
      refine growA_val (I := (AB B 109 9 10 13 14 15 16 (.slice a1' p1 c1) (.slice a2' p2 c2) (.slice a3' p3 c3) (.slice a4' p4 c4))) (X := (fun _ _ _ => True)) (d := fd) (a := a) (w := w1) (.int .i64 ((i : Int) + 1)) w1 ho rfl ?_ (Below.refl _ _) (hI.put (by decide) (by decide) (by decide) (by decide) (by decide) (by decide)) trivial rfl
      unfold execOp
      simp only [List.map_toArray, List.map_cons, List.map_nil, d0, ec]
      go_simp
      first | done | rfl | (simp only [e30]; done) | (simp only [e30]; rfl)
    · have ho2 := ho; simp only [List.getElem?_toArray, List.getElem?_cons_succ, List.getElem?_cons_zero, Option.some.injEq] at ho2; subst ho2
      refine growA_val (I := (AB B 109 9 10 13 14 15 16 (.slice a1' p1 c1) (.slice a2' p2 c2) (.slice a3' p3 c3) (.slice a4' p4 c4))) (X := (fun _ _ _ => True)) (d := fd) (a := a) (w := w1) (.slice (some ⟨gb, off, none⟩) n sc) w1 ho rfl ?_ (Below.refl _ _) (hI.put (by decide) (by decide) (by decide) (by decide) (by decide) (by decide)) trivial rfl
      unfold execOp
      simp only [List.map_toArray, List.map_cons, List.map_nil, e7, ec]
      first | rfl | (go_simp; done) | (go_simp; rfl) | (go_simp; omega)
    · have ho2 := ho; simp only [List.getElem?_toArray, List.getElem?_cons_succ, List.getElem?_cons_zero, Option.some.injEq] at ho2; subst ho2
      have d0 : a.eval (.tmp 33) = .slice (some ⟨gb, off, none⟩) n sc := hdep ⟨7, .data⟩ (by simp) rfl
      refine growA_val (I := (AB B 109 9 10 13 14 15 16 (.slice a1' p1 c1) (.slice a2' p2 c2) (.slice a3' p3 c3) (.slice a4' p4 c4))) (X := (fun _ _ _ => True)) (d := fd) (a := a) (w := w1) (.int .i64 (n : Nat)) w1 ho rfl ?_ (Below.refl _ _) (hI.put (by decide) (by decide) (by decide) (by decide) (by decide) (by decide)) trivial rfl
      unfold execOp resolve
      simp only [List.map_toArray, List.map_cons, List.map_nil, d0, ec]
      first | rfl | (go_simp; done) | (go_simp; rfl)
    · have ho2 := ho; simp only [List.getElem?_toArray, List.getElem?_cons_succ, List.getElem?_cons_zero, Option.some.injEq] at ho2; subst ho2
      have d0 : a.eval (.tmp 34) = .int .i64 (n : Nat) := hdep ⟨8, .data⟩ (by simp) rfl
      refine growA_val (I := (AB B 109 9 10 13 14 15 16 (.slice a1' p1 c1) (.slice a2' p2 c2) (.slice a3' p3 c3) (.slice a4' p4 c4))) (X := (fun _ _ _ => True)) (d := fd) (a := a) (w := w1) (.int .i64 ((n : Int) - 1)) w1 ho rfl ?_ (Below.refl _ _) (hI.put (by decide) (by decide) (by decide) (by decide) (by decide) (by decide)) trivial rfl
      unfold execOp
      simp only [List.map_toArray, List.map_cons, List.map_nil, d0, ec]
      go_simp
      first | done | rfl | (simp only [e33]; done) | (simp only [e33]; rfl)
    · have ho2 := ho; simp only [List.getElem?_toArray, List.getElem?_cons_succ, List.getElem?_cons_zero, Option.some.injEq] at ho2; subst ho2
      have d0 : a.eval (.tmp 32) = .int .i64 ((i : Int) + 1) := hdep ⟨6, .data⟩ (by simp) rfl
      have d1 : a.eval (.tmp 35) = .int .i64 ((n : Int) - 1) := hdep ⟨9, .data⟩ (by simp) rfl
      refine growA_val (I := (AB B 109 9 10 13 14 15 16 (.slice a1' p1 c1) (.slice a2' p2 c2) (.slice a3' p3 c3) (.slice a4' p4 c4))) (X := (fun _ _ _ => True)) (d := fd) (a := a) (w := w1) (.int .i64 (j : Nat)) w1 ho rfl ?_ (Below.refl _ _) (hI.put (by decide) (by decide) (by decide) (by decide) (by decide) (by decide)) trivial rfl
      unfold execOp resolve
      simp only [List.map_toArray, List.map_cons, List.map_nil, d0, d1, ec]
      simp only [invoke, builtin, Sem.run_bind, Sem.run_pure, Result.andThen_ok, M w1]
    · have ho2 := ho; simp only [List.getElem?_toArray, List.getElem?_cons_succ, List.getElem?_cons_zero, Option.some.injEq] at ho2; subst ho2
      have d0 : a.eval (.tmp 30) = .slice (some ⟨gb, off, none⟩) n sc := hdep ⟨4, .data⟩ (by simp) rfl
      have d1 : a.eval (.tmp 36) = .int .i64 (j : Nat) := hdep ⟨10, .data⟩ (by simp) rfl
      refine growA_val (I := (AB B 109 9 10 13 14 15 16 (.slice a1' p1 c1) (.slice a2' p2 c2) (.slice a3' p3 c3) (.slice a4' p4 c4))) (X := (fun _ _ _ => True)) (d := fd) (a := a) (w := w1) (.pointer (some ⟨gb, off + j * 2, none⟩)) w1 ho rfl ?_ (Below.refl _ _) (hI.put (by decide) (by decide) (by decide) (by decide) (by decide) (by decide)) trivial rfl
      unfold execOp
      simp only [List.map_toArray, List.map_cons, List.map_nil, d0, d1, ec]
      first | rfl | (go_simp; done) | (go_simp; rfl) | (go_simp; omega)
    · have ho2 := ho; simp only [List.getElem?_toArray, List.getElem?_cons_succ, List.getElem?_cons_zero, Option.some.injEq] at ho2; subst ho2
      have d0 : a.eval (.tmp 37) = .pointer (some ⟨gb, off + j * 2, none⟩) := hdep ⟨11, .data⟩ (by simp) rfl
      refine growA_val (I := (AB B 109 9 10 13 14 15 16 (.slice a1' p1 c1) (.slice a2' p2 c2) (.slice a3' p3 c3) (.slice a4' p4 c4))) (X := (fun _ _ _ => True)) (d := fd) (a := a) (w := w1) (.agg #[.slice a3' p3 c3, .slice a4' p4 c4]) w1 ho rfl ?_ (Below.refl _ _) (hI.put (by decide) (by decide) (by decide) (by decide) (by decide) (by decide)) trivial rfl
      unfold execOp
      simp only [List.map_toArray, List.map_cons, List.map_nil, d0, ec]
      first | rfl | (go_simp; done) | (go_simp; rfl) | (go_simp; omega)
    · have ho2 := ho; simp only [List.getElem?_toArray, List.getElem?_cons_succ, List.getElem?_cons_zero, Option.some.injEq] at ho2; subst ho2
      refine growA_val (I := (AB B 109 9 10 13 14 15 16 (.slice a1' p1 c1) (.slice a2' p2 c2) (.slice a3' p3 c3) (.slice a4' p4 c4))) (X := (fun _ _ _ => True)) (d := fd) (a := a) (w := w1) (.pointer (some ⟨w1.heap.size, 0, none⟩)) (w1.alloc (.cells #[.slice none 0 0, .slice none 0 0] 25)) ho rfl ?_ ((Below.refl B w1).alloc hI.bz _) (hI.newA (by decide) (by decide) (by decide) (by decide) (by decide) hfd) trivial trivial
      unfold execOp
      go_simp
      first | done | rfl
    · have ho2 := ho; simp only [List.getElem?_toArray, List.getElem?_cons_succ, List.getElem?_cons_zero, Option.some.injEq] at ho2; subst ho2
      refine growA_val (I := (AB B 109 9 10 13 14 15 16 (.slice a1' p1 c1) (.slice a2' p2 c2) (.slice a3' p3 c3) (.slice a4' p4 c4))) (X := (fun _ _ _ => True)) (d := fd) (a := a) (w := w1) (.pointer (some ⟨w1.heap.size, 0, none⟩)) (w1.alloc (.cells #[.slice none 0 0, .slice none 0 0] 25)) ho rfl ?_ ((Below.refl B w1).alloc hI.bz _) (hI.newB (by decide) (by decide) (by decide) (by decide) (by decide) hfd) trivial trivial
      unfold execOp
      go_simp
      first | done | rfl
    · have ho2 := ho; simp only [List.getElem?_toArray, List.getElem?_cons_succ, List.getElem?_cons_zero, Option.some.injEq] at ho2; subst ho2
      have hjd : fd 13 = true := hdd ⟨13, .data⟩ (by simp) rfl
      obtain ⟨p, hp, hpB, hpz⟩ := hI.pa hjd
      rw [hfd] at hpz
      simp only [Bool.false_eq_true, if_false, nilC] at hpz
      have d1 : a.eval (.tmp 9) = .pointer (some ⟨p, 0, none⟩) := hp
      have d2 : a.eval (.tmp 29) = .agg #[.slice a1' p1 c1, .slice a2' p2 c2] := hdep ⟨3, .data⟩ (by simp) rfl
      have f0 := hpz.frozen 0
      have f1 := hpz.frozen 1
      have g0 := hpz.cell 0
      have g1 := hpz.cell 1
      simp only [List.getElem?_cons_succ, List.getElem?_cons_zero] at g0 g1
      refine growA_skip (I := (AB B 109 9 10 13 14 15 16 (.slice a1' p1 c1) (.slice a2' p2 c2) (.slice a3' p3 c3) (.slice a4' p4 c4))) (X := (fun _ _ _ => True)) (d := fd) (a := a) (w := w1) ((w1.setCell ⟨p, 0, none⟩ (.slice a1' p1 c1)).setCell ⟨p, 1, none⟩ (.slice a2' p2 c2)) ho rfl rfl ?_ (((Below.refl B w1).setCell hpB _).setCell hpB _) (hI.fillA (by decide) (by decide) (by decide) hjd hfd hp) trivial trivial
      unfold execOp
      simp only [d1, d2, ec]
      go_simp
    · have ho2 := ho; simp only [List.getElem?_toArray, List.getElem?_cons_succ, List.getElem?_cons_zero, Option.some.injEq] at ho2; subst ho2
      have hjd : fd 14 = true := hdd ⟨14, .data⟩ (by simp) rfl
      obtain ⟨p, hp, hpB, hpz⟩ := hI.pb hjd
      rw [hfd] at hpz
      simp only [Bool.false_eq_true, if_false, nilC] at hpz
      have d1 : a.eval (.tmp 10) = .pointer (some ⟨p, 0, none⟩) := hp
      have d2 : a.eval (.tmp 38) = .agg #[.slice a3' p3 c3, .slice a4' p4 c4] := hdep ⟨12, .data⟩ (by simp) rfl
      have f0 := hpz.frozen 0
      have f1 := hpz.frozen 1
      have g0 := hpz.cell 0
      have g1 := hpz.cell 1
      simp only [List.getElem?_cons_succ, List.getElem?_cons_zero] at g0 g1
      refine growA_skip (I := (AB B 109 9 10 13 14 15 16 (.slice a1' p1 c1) (.slice a2' p2 c2) (.slice a3' p3 c3) (.slice a4' p4 c4))) (X := (fun _ _ _ => True)) (d := fd) (a := a) (w := w1) ((w1.setCell ⟨p, 0, none⟩ (.slice a3' p3 c3)).setCell ⟨p, 1, none⟩ (.slice a4' p4 c4)) ho rfl rfl ?_ (((Below.refl B w1).setCell hpB _).setCell hpB _) (hI.fillB (by decide) (by decide) (by decide) hjd hfd hp) trivial trivial
      unfold execOp
      simp only [d1, d2, ec]
      go_simp
  · intro a w1 hI hb hj
    obtain ⟨p, h1, _, h2⟩ := hI.pa (by decide)
    obtain ⟨q, q1, _, q2⟩ := hI.pb (by decide)
    rw [if_pos (by decide)] at h2 q2
    exact ⟨p, q, h1, q1, h2, q2, (Below.refl B w2).drew.trans hb⟩
  rintro ts w3 ⟨gp, gq, h10, h11, hx, hy, hb3⟩
  simp only [fill, List.setIfInBounds_toArray, List.set_cons_succ, List.set_cons_zero]
  rw [h10, h11]
  rw [← hB] at hb3
  have HDA3 := Lib.hid (HDA.out.later hb3)
  have HDB3 := Lib.hid (HDB.out.later hb3)
  have HPA := Lib.hid (pr_mk HDA3.out HP.out.1)
  have HPB := Lib.hid (pr_mk HDB3.out HP.out.2)
  have HRK := Lib.hid HDA3.out.c
  unfold Sx.v at HRK
  simp only at HRK
  rw [HP.out.1.1] at HRK
  have HN3 := Lib.hid (HN2.out.later hb3)
  have HT3 := Lib.hid (HT2.out.later hb3)
  have HB3 := Lib.hid (up HB2.out hb3)
  have HX := Lib.hid hx
  have HY := Lib.hid hy
  have HRW := Lib.hid (lRowOf (.slice a1' p1 c1) nv la nl w3 HRK.out HN3.out.rd HAL.out HMAY.out HN3.out.i)
  rw [HRR.out] at HRW
  have x0 := hx.cell 0
  simp only [List.getElem?_cons_succ, List.getElem?_cons_zero] at x0
  clear h10 h11 hx hy hb3 HN2 HT2 HB2 HR HDA HDB HRK e30 e33 hB M HMN HHA HHB
  go_wp2_with fail
  clear x0
  ((with_reducible refine HRW.out.mono ?_); rintro e w4 ⟨rv, rfl, ho, b⟩)
  have HRC := Lib.hid (RdC.of ho)
  have HT4 := Lib.hid (HT3.out.later b)
  have HB4 := Lib.hid (up HB3.out b)
  have HX4 := Lib.hid (HX.out.later b)
  have HY4 := Lib.hid (HY.out.later b)
  have HDA4 := Lib.hid (HDA3.out.later b)
  have HDB4 := Lib.hid (HDB3.out.later b)
  have HBD : Hid (rr.length ≤ 1000000 ∧ (∀ c ∈ rr, Cl.I64 c.n) ∧ ∀ c ∈ rr, c.s.size ≤ 1000000) := Lib.hid ⟨by have := HRL.out; have := HAL.out; omega, fun c hc => (HSL.out c hc).1, fun c hc => by have := (HSL.out c hc).2; omega⟩
  have HMV := Lib.hid (mvL _ _ HOA.out HOB.out w4 HT4.out (HPA.out.later b) (HPB.out.later b) rv rr HRC.out HBD.out _ HMO.out)
  have x0 := HX4.out.cell 0
  have x1 := HX4.out.cell 1
  have y0 := HY4.out.cell 0
  have y1 := HY4.out.cell 1
  simp only [List.getElem?_cons_succ, List.getElem?_cons_zero] at x0 x1 y0 y1
  clear HRW ho b HT3 HB3 HX HY HPA HPB HN3 HDA3 HDB3
  go_wp2_with fail
  clear x0 x1 y0 y1
  ((with_reducible refine HMV.out.mono ?_); rintro e w5 ⟨u1, rfl, ho1, b⟩)
  simp only at ho1
  obtain ⟨q, hq1, hq2, hq3, hq4⟩ := HMK.out.key HLA.out HLB.out HRO.out
  have HQ := Lib.hid (And.intro hq1 (And.intro hq2 (And.intro hq3 hq4)))
  have hmo := HMK.out.ch.moved_ok HLA.out HLB.out HRO.out
  have hsm := (HSL.out).moved (a := (la, ka)) HMK.out HLB.out
  have HMS := Lib.hid (HMK.out.ch.self_is HLA.out HRO.out)
  have hml : (Ev.mvd la lb rr).length ≤ 1000 := by rw [Ev.mvd_len]; exact HBL.out
  have hkl : ka.length ≤ 100000 ∧ kb.length ≤ 100000 := by
    have h1 := (HMK.out.all _ (List.mem_of_getElem? HLA.out)).1
    have h2 := (HMK.out.all _ (List.mem_of_getElem? HLB.out)).1
    simp only at h1 h2
    rw [h1, h2]; simp
  simp only at HQ hmo hsm
  clear hq1 hq2 hq3 hq4
  obtain ⟨mm, hmm⟩ : ∃ z, Ev.mvd la lb rr = z := ⟨_, rfl⟩
  rw [hmm] at ho1 HQ hmo hsm hml
  have HMM : Hid (mm.length ≤ 1000000 ∧ (∀ c ∈ mm, Cl.I64 c.n) ∧ ∀ c ∈ mm, c.s.size ≤ 1000000) := Lib.hid ⟨by omega, fun c hc => (hsm c hc).1, fun c hc => by have := (hsm c hc).2; omega⟩
  have HMO1 := Lib.hid hmo
  have HKL := Lib.hid hkl
  obtain ⟨xs, hxs⟩ : ∃ x, str q = x := ⟨_, rfl⟩
  have HXS := Lib.hid hxs
  clear hmm hmo hsm hml hkl hxs HMO
  have HU1 := Lib.hid (RdC.of ho1)
  have HRC5 := Lib.hid (HRC.out.later b)
  have HDA5 := Lib.hid (HDA4.out.later b)
  have HDB5 := Lib.hid (HDB4.out.later b)
  have HX5 := Lib.hid (HX4.out.later b)
  have HY5 := Lib.hid (HY4.out.later b)
  have HT5 := Lib.hid (HT4.out.later b)
  have HB5 := Lib.hid (up HB4.out b)
  have HPA5 := Lib.hid (pr_mk HDA5.out HP.out.1)
  have HM2 := Lib.hid (mvL _ _ HOA.out HOA.out w5 HT5.out HPA5.out HPA5.out rv rr HRC5.out HBD.out _ HMS.out)
  have x0 := HX5.out.cell 0
  have x1 := HX5.out.cell 1
  simp only [List.getElem?_cons_succ, List.getElem?_cons_zero] at x0 x1
  clear HMV ho1 b HRC HT4 HB4 HX4 HY4 HDA4 HDB4 HPA5
  go_wp2_with fail
  clear x0 x1
  ((with_reducible refine HM2.out.mono ?_); rintro e w6 ⟨u2, rfl, ho2, b⟩)
  simp only at ho2
  have HU2 := Lib.hid (RdC.of ho2)
  have HU16 := Lib.hid (HU1.out.later b)
  have HRC6 := Lib.hid (HRC5.out.later b)
  have HDA6 := Lib.hid (HDA5.out.later b)
  have HDB6 := Lib.hid (HDB5.out.later b)
  have HX6 := Lib.hid (HX5.out.later b)
  have HY6 := Lib.hid (HY5.out.later b)
  have HT6 := Lib.hid (HT5.out.later b)
  have HB6 := Lib.hid (up HB5.out b)
  have hka := HDA6.out.c
  have hia := HDA6.out.k
  unfold Sx.v at hka
  unfold Sx.kv at hia
  simp only at hka hia
  rw [HP.out.1.1] at hka
  rw [HP.out.1.2] at hia
  have HK1 := Lib.hid (rowKey (.slice a1' p1 c1) (.slice a2' p2 c2) rv la ka rr w6 HT6.out hka hia HRC6.out HKL.out.1 HBD.out.1 HBD.out.2.1 HBD.out.2.2 HQ.out.2.2.1 _ HQ.out.1 xs HXS.out)
  have x0 := HX6.out.cell 0
  have x1 := HX6.out.cell 1
  simp only [List.getElem?_cons_succ, List.getElem?_cons_zero] at x0 x1
  clear HM2 ho2 b HU1 HRC5 HDA5 HDB5 HX5 HY5 HT5 HB5 hka hia
  go_wp2_with fail
  clear x0 x1
  ((with_reducible refine HK1.out.mono ?_); rintro e w7 ⟨rfl, b⟩)
  have HU27 := Lib.hid (HU2.out.later b)
  have HU17 := Lib.hid (HU16.out.later b)
  have HRC7 := Lib.hid (HRC6.out.later b)
  have HDB7 := Lib.hid (HDB6.out.later b)
  have HY7 := Lib.hid (HY6.out.later b)
  have HT7 := Lib.hid (HT6.out.later b)
  have HB7 := Lib.hid (up HB6.out b)
  have hkb := HDB7.out.c
  have hib := HDB7.out.k
  unfold Sx.v at hkb
  unfold Sx.kv at hib
  simp only at hkb hib
  rw [HP.out.2.1] at hkb
  rw [HP.out.2.2] at hib
  have HK2 := Lib.hid (rowKey (.slice a3' p3 c3) (.slice a4' p4 c4) u1 lb kb mm w7 HT7.out hkb hib HU17.out HKL.out.2 HMM.out.1 HMM.out.2.1 HMM.out.2.2 HQ.out.2.2.2 _ HQ.out.2.1 xs HXS.out)
  have y0 := HY7.out.cell 0
  have y1 := HY7.out.cell 1
  simp only [List.getElem?_cons_succ, List.getElem?_cons_zero] at y0 y1
  clear HK1 b HU2 HU16 HRC6 HDA6 HDB6 HX6 HY6 HT6 HB6 hkb hib
  go_wp2_with fail
  clear y0 y1
  ((with_reducible refine HK2.out.mono ?_); rintro e w8 ⟨rfl, b⟩)
  have HEQ := Lib.hid (eqRow u2 rv rr rr w8 (HU27.out.later b) (HRC7.out.later b) HBD.out.1 true (by simp))
  have HU18 := Lib.hid (HU17.out.later b)
  have HDB8 := Lib.hid (HDB7.out.later b)
  have HY8 := Lib.hid (HY7.out.later b)
  have HT8 := Lib.hid (HT7.out.later b)
  have HB8 := Lib.hid (up HB7.out b)
  clear HK2 b HU27 HU17 HRC7 HDB7 HY7 HT7 HB7
  go_wp2_with fail
  ((with_reducible refine HEQ.out.mono ?_); rintro e w9 ⟨rfl, b⟩)
  have hkb := (HDB8.out.later b).c
  unfold Sx.v at hkb
  simp only at hkb
  rw [HP.out.2.1] at hkb
  have HCK := Lib.hid (rowCheck (.slice a3' p3 c3) u1 lb mm w9 (HT8.out.later b) hkb (HU18.out.later b) HMM.out.1 HMM.out.2.1 HMM.out.2.2 0 HMO1.out)
  have HT9 := Lib.hid (HT8.out.later b)
  have HB9 := Lib.hid (up HB8.out b)
  have y0 := (HY8.out.later b).cell 0
  simp only [List.getElem?_cons_succ, List.getElem?_cons_zero] at y0
  clear HEQ b HU18 HDB8 HY8 HT8 HB8 hkb
  go_wp2_with fail
  clear y0
  ((with_reducible refine HCK.out.mono ?_); rintro e w10 ⟨rfl, b⟩)
  have HTA := Lib.hid (HT9.out.later b)
  have HBA := Lib.hid (up HB9.out b)
  clear HCK b HT9 HB9
  go_wp2_with fail
  ((with_reducible refine (works12 w10 HTA.out).mono ?_); rintro e w11 ⟨rfl, b⟩)
  go_wp2
  go_ret
  exact ⟨rfl, up HBA.out b⟩
end Go.Proofs.YtigcgkhcbmnboaaGreatDoor
