/- EvCeW. -/
import Derived.Test.YtigcgkhcbmnboaaGreatDoorEvS
import Derived.BigRegion
import Derived.Test.YtigcgkhcbmnboaaGreatDoorEva
import Derived.Deep.DeepCutAuto
import Derived.Deep.CutBlock
/- The walk of EvolveCells. -/
namespace Go.Proofs.YtigcgkhcbmnboaaGreatDoor
open Go.RowKit Go.Sort
set_option linter.unusedVariables false
set_option linter.unusedSimpArgs false
set_option maxRecDepth 100000

theorem rdK_all {W : World} {B n c : Nat} {ad : Option Addr} {l : List Co} (h : RdK W B (.slice ad n c) l) {i : Nat} {x : Co} (hi : l[i]? = some x) :
    ∃ b off, ad = some ⟨b, off, none⟩ ∧ ∀ w, Below B W w → w.cell? ⟨b, off + i * 7, none⟩ = some (.int .i64 x.id) ∧ w.cell? ⟨b, off + i * 7 + 1, none⟩ = some (.string x.nm) ∧ w.cell? ⟨b, off + i * 7 + 2, none⟩ = some (.int .i64 x.k) ∧ w.cell? ⟨b, off + i * 7 + 3, none⟩ = some (.bool x.u) ∧ w.cell? ⟨b, off + i * 7 + 4, none⟩ = some (.bool x.d.u) ∧ w.cell? ⟨b, off + i * 7 + 5, none⟩ = some (.int .i64 x.d.n) ∧ w.cell? ⟨b, off + i * 7 + 6, none⟩ = some (.string x.d.s) := by
  obtain ⟨b, off, e, _⟩ := rdK_cells h (Below.refl _ _) hi
  refine ⟨b, off, e, fun w hb => ?_⟩
  obtain ⟨b', off', e', h'⟩ := rdK_cells h hb hi
  rw [e] at e'
  injection e' with e'
  injection e' with e1 e2
  subst e1 e2
  exact h'
theorem min_is_EvolveCells (a b c : Int) (h : min a b = c) (w : World) : (Builtin.min_ #[3, 3] 3 #[.int .i64 a, .int .i64 b]).run Tryz.prog w = .ok (.int .i64 c) w := by
  rw [← h]
  simp [Builtin.min_, Builtin.min2]
  repeat' split
  all_goals omega
set_option maxHeartbeats 16000000 in
theorem evolveCells (cv vv : Value) (C : List Int) (V : List Ev.V3) (at' : Int) (nv : Value) (nl : List Int) (w : World) (hs : SeedE w cv vv C V) (h0 : -9223372036854775808 ≤ at') (h1 : at' ≤ 9223372036854775807) (hn : NumsE w nv nl) (T : TA w) :
    Calls Tryz.prog 8 #[.agg #[cv, vv], .int .i64 at', nv] w fun e w' => e = .returned (.bool true) ∧ Below w.heap.size w w' := by
  obtain ⟨ca, cc, hcv, _⟩ := Gn.Rd.form hs.c
  obtain ⟨va, vc, hvv, _⟩ := Gn.Rd.form hs.v
  obtain ⟨cn, hcn⟩ : ∃ n, C.length = n := ⟨_, rfl⟩
  obtain ⟨vn, hvn⟩ : ∃ n, V.length = n := ⟨_, rfl⟩
  rw [hcn] at hcv
  rw [hvn] at hvv
  subst hcv hvv
  have b2 := box_new w (.cells #[.slice ca cn cc, .slice va vn vc] 45)
  have q1 := Blk.new w 45 #[.slice ca cn cc, .slice va vn vc]
  have HN := Lib.hid (hn.later b2)
  have HT := Lib.hid (T.later b2)
  have HB := Lib.hid b2
  have HC := Lib.hid (chainE (hs.later b2))
  have z0 := q1.cell 0
  have z1 := q1.cell 1
  simp only [List.getElem?_cons_succ, List.getElem?_cons_zero] at z0 z1
  clear hs hn T q1 b2 hcn hvn
  go_enter Tryz.func8, Tryz.ntmps8
  go_wp2_with fail
  generalize w.alloc (.cells #[.slice ca cn cc, .slice va vn vc] 45) = w0 at *
  clear z0 z1
  ((with_reducible refine HC.out.mono ?_); rintro e w2 ⟨v, L, rfl, hr, hsm, b⟩)
  have hmk := Ev.mkch_is C V
  generalize Ev.mkch C V = l at *
  obtain ⟨sa, sc, rfl, _⟩ := Gn.Rd.form hr.rd
  have hll : l.length = L.length := by rw [← hsm, sms_len]
  obtain ⟨n, hL⟩ : ∃ n, L.length = n := ⟨_, rfl⟩
  have hn1 : 1 ≤ n := by have := hmk.len0; omega
  have hn8 : n ≤ 8 := by have := hmk.len; omega
  rw [hL] at hr ⊢
  have HLL := Lib.hid hL
  have HR := Lib.hid hr
  have HSM := Lib.hid hsm
  have HMK := Lib.hid hmk
  have HB2 := Lib.hid (up HB.out b)
  have HN2 := Lib.hid (HN.out.later b)
  have HT2 := Lib.hid (HT.out.later b)
  obtain ⟨i, hi⟩ := Int.eq_ofNat_of_zero_le (Int.emod_nonneg at' (b := (n : Int)) (by omega))
  have hil : i < n := by have := Int.emod_lt_of_pos at' (b := (n : Int)) (by omega); omega
  have HBA := Lib.hid (fun w1 => bringAtE at' (n : Int) (i : Int) ⟨h0, h1⟩ (by omega) (by omega) hi w1)
  obtain ⟨j, hj⟩ : ∃ j, min (i + 1) (n - 1) = j := ⟨_, rfl⟩
  obtain ⟨m, hm⟩ : ∃ m, i + m = j := ⟨j - i, by omega⟩
  have hjl : j < n := by omega
  have HMN := Lib.hid (min_is_EvolveCells ((i : Int) + 1) ((n : Int) - 1) (j : Int) (by omega))
  obtain ⟨xa, hxa⟩ : ∃ x, L[i]? = some x := ⟨_, List.getElem?_eq_getElem (by omega)⟩
  obtain ⟨xb, hxb⟩ : ∃ x, L[j]? = some x := ⟨_, List.getElem?_eq_getElem (by omega)⟩
  clear HB HN HT HC hr hsm hmk hll hL b hi hj h0 h1
  go_wp2_with fail
  ((with_reducible refine (HBA.out w2).mono ?_); rintro e w' ⟨rfl, rfl⟩)
  clear HBA
  obtain ⟨gb, off, hsa, _, _⟩ := rdS_cells HR.out (Below.refl _ _) (i := i) (x := xa) hxa
  subst hsa
  have hca : ∀ w1, Below w2.heap.size w2 w1 → w1.cell? ⟨gb, off + i * 2, none⟩ = some xa.v ∧ w1.cell? ⟨gb, off + i * 2 + 1, none⟩ = some xa.kv := fun w1 hb => by
    obtain ⟨b', o', e, h1, h2⟩ := rdS_cells HR.out hb (i := i) (x := xa) hxa
    injection e with e; injection e with e1 e2; subst e1 e2; exact ⟨h1, h2⟩
  have hcb : ∀ w1, Below w2.heap.size w2 w1 → w1.cell? ⟨gb, off + j * 2, none⟩ = some xb.v ∧ w1.cell? ⟨gb, off + j * 2 + 1, none⟩ = some xb.kv := fun w1 hb => by
    obtain ⟨b', o', e, h1, h2⟩ := rdS_cells HR.out hb (i := j) (x := xb) hxb
    injection e with e; injection e with e1 e2; subst e1 e2; exact ⟨h1, h2⟩
  have hda := HR.out.el xa (List.mem_of_getElem? hxa)
  have hdb := HR.out.el xb (List.mem_of_getElem? hxb)
  have hla := mk_at HSM.out hxa
  have hlb : l[i + m]? = some xb.s := by rw [hm]; exact mk_at HSM.out hxb
  have HOA := Lib.hid (mk_ok HMK.out _ (List.mem_of_getElem? hla))
  have HOB := Lib.hid (mk_ok HMK.out _ (List.mem_of_getElem? hlb))
  have HRO := Lib.hid (HMK.out.row hla nl)
  have HSL := Lib.hid (HMK.out.small hla nl HN2.out.i)
  have HMO := Lib.hid (HMK.out.ch.move_is hla hlb HRO.out)
  have HLA := Lib.hid hla
  have HLB := Lib.hid hlb
  have HMAY : Hid (∀ c ∈ xa.s.1, Cl.may c.k = true) := Lib.hid (fun c hc => by
    obtain ⟨_, _, mm, o, _, hcl⟩ := HMK.out.all _ (List.mem_of_getElem? hla)
    exact (Cl.chk_ok (hcl.co c hc).ck).1)
  have HAL := Lib.hid (show xa.s.1.length ≤ 1000 by have := (HMK.out.all _ (List.mem_of_getElem? hla)).2.1; omega)
  have HBL := Lib.hid (show xb.s.1.length ≤ 1000 by have := (HMK.out.all _ (List.mem_of_getElem? hlb)).2.1; omega)
  have HRL := Lib.hid (show (Ev.rowF nl 0 xa.s.1).length = xa.s.1.length by rw [Ev.rowF_len])
  obtain ⟨rr, hrr⟩ : ∃ r, Ev.rowF nl 0 xa.s.1 = r := ⟨_, rfl⟩
  rw [hrr] at HRO HSL HMO HRL
  have HRR := Lib.hid hrr
  clear hrr
  have HDA := Lib.hid hda
  have HDB := Lib.hid hdb
  have HHA := Lib.hid hca
  have HHB := Lib.hid hcb
  clear hda hdb hca hcb hla hlb hxa hxb hm
  obtain ⟨a1', c1, a2', c2, ⟨la, ka⟩⟩ := xa
  obtain ⟨a3', c3, a4', c4, ⟨lb, kb⟩⟩ := xb
  unfold Sx.v Sx.kv at HHA HHB
  simp only at HHA HHB HMAY HAL HBL HRL HRR HMO HOA HOB HRO HLA HLB
  obtain ⟨p1, hp1⟩ : ∃ p, la.length = p := ⟨_, rfl⟩
  obtain ⟨p2, hp2⟩ : ∃ p, ka.length = p := ⟨_, rfl⟩
  obtain ⟨p3, hp3⟩ : ∃ p, lb.length = p := ⟨_, rfl⟩
  obtain ⟨p4, hp4⟩ : ∃ p, kb.length = p := ⟨_, rfl⟩
  rw [hp1, hp2] at HHA
  rw [hp3, hp4] at HHB
  have HP := Lib.hid (And.intro (And.intro hp1 hp2) (And.intro hp3 hp4))
  clear hp1 hp2 hp3 hp4
  go_upto_region 3 with fail
  obtain ⟨B, hB⟩ : ∃ B, w2.heap.size = B := ⟨_, rfl⟩
  have e30 : IntKind.i64.wrap ((i : Int) + 1) = (i : Int) + 1 := by rw [IntWalk.i64_in _ ⟨by omega, by omega⟩]
  have e33 : IntKind.i64.wrap ((n : Int) - 1) = (n : Int) - 1 := by rw [IntWalk.i64_in _ ⟨by omega, by omega⟩]
  have M := HMN.out
  refine region_growA_merge (fun u v => Below B u v) (AB B 103 9 10 13 14 15 16 (.slice a1' p1 c1) (.slice a2' p2 c2) (.slice a3' p3 c3) (.slice a4' p4 c4)) (fun _ _ _ => True) (fun u => Below.refl B u) (fun _ _ _ h k => h.trans k) (kjI #[Spc.eq (.slice (some ⟨gb, off, none⟩) n sc), Spc.eq (.int .i64 (i : Nat)), Spc.eq (.pointer (some ⟨gb, off + i * 2, none⟩)), Spc.eq (.agg #[.slice a1' p1 c1, .slice a2' p2 c2]), Spc.eq (.slice (some ⟨gb, off, none⟩) n sc), Spc.eq (.int .i64 (i : Nat)), Spc.eq (.int .i64 ((i : Int) + 1)), Spc.eq (.slice (some ⟨gb, off, none⟩) n sc), Spc.eq (.int .i64 (n : Nat)), Spc.eq (.int .i64 ((n : Int) - 1)), Spc.eq (.int .i64 (j : Nat)), Spc.eq (.pointer (some ⟨gb, off + j * 2, none⟩)), Spc.eq (.agg #[.slice a3' p3 c3, .slice a4' p4 c4]), Spc.any, Spc.any, Spc.any, Spc.any]) [24, 25, 26, 27, 28, 29, 30, 31, 32, 33, 34, 35, 36, 9, 10] (fun ts W => ∃ p q, ts.getD 9 undef = .pointer (some ⟨p, 0, none⟩) ∧ ts.getD 10 undef = .pointer (some ⟨q, 0, none⟩) ∧ Blk W p 25 [.slice a1' p1 c1, .slice a2' p2 c2] ∧ Blk W q 25 [.slice a3' p3 c3, .slice a4' p4 c4] ∧ Below B w2 W) (by kernel_rfl) (by kernel_rfl) (by kernel_rfl) kjI_later (AB.start (by rfl) (by rw [← hB]; exact Nat.le_refl _)) ?_ ?_ ?_
  · intro QQ fd jo o a w1 ho hfd hdd hI hb hs hold hdep
    have hjo : jo < 17 := (Array.getElem?_eq_some_iff.1 ho).1
    skip
    have hbw : Below w2.heap.size w2 w1 := by rw [hB]; exact (Below.refl B w2).drew.trans hb
    obtain ⟨k0, k1⟩ := HHA.out w1 hbw
    obtain ⟨k2, k3⟩ := HHB.out w1 hbw
    have e7 : a.eval (.tmp 7) = .slice (some ⟨gb, off, none⟩) n sc := by
      show a.tmps.getD 7 undef = _
      rw [Array.getD_eq_getD_getElem?, hold 7 (by decide +kernel)]; rfl
    have e8 : a.eval (.tmp 8) = .int .i64 (i : Nat) := by
      show a.tmps.getD 8 undef = _
      rw [Array.getD_eq_getD_getElem?, hold 8 (by decide +kernel)]; rfl
    have ec : ∀ v, a.eval (.const v) = v := fun _ => rfl
    clear hold hs
    rcases (show jo = 0 ∨ jo = 1 ∨ jo = 2 ∨ jo = 3 ∨ jo = 4 ∨ jo = 5 ∨ jo = 6 ∨ jo = 7 ∨ jo = 8 ∨ jo = 9 ∨ jo = 10 ∨ jo = 11 ∨ jo = 12 ∨ jo = 13 ∨ jo = 14 ∨ jo = 15 ∨ jo = 16 by omega) with rfl | rfl | rfl | rfl | rfl | rfl | rfl | rfl | rfl | rfl | rfl | rfl | rfl | rfl | rfl | rfl | rfl
    · have ho2 := ho; simp only [List.getElem?_toArray, List.getElem?_cons_succ, List.getElem?_cons_zero, Option.some.injEq] at ho2; subst ho2
      refine growA_val (I := (AB B 103 9 10 13 14 15 16 (.slice a1' p1 c1) (.slice a2' p2 c2) (.slice a3' p3 c3) (.slice a4' p4 c4))) (X := (fun _ _ _ => True)) (d := fd) (a := a) (w := w1) (.slice (some ⟨gb, off, none⟩) n sc) w1 ho rfl ?_ (Below.refl _ _) (hI.put (by decide) (by decide) (by decide) (by decide) (by decide) (by decide)) trivial rfl
      unfold execOp
      simp only [List.map_toArray, List.map_cons, List.map_nil, e7, ec]
      first | rfl | (go_simp; done) | (go_simp; rfl) | (go_simp; omega)
    · have ho2 := ho; simp only [List.getElem?_toArray, List.getElem?_cons_succ, List.getElem?_cons_zero, Option.some.injEq] at ho2; subst ho2
      refine growA_val (I := (AB B 103 9 10 13 14 15 16 (.slice a1' p1 c1) (.slice a2' p2 c2) (.slice a3' p3 c3) (.slice a4' p4 c4))) (X := (fun _ _ _ => True)) (d := fd) (a := a) (w := w1) (.int .i64 (i : Nat)) w1 ho rfl ?_ (Below.refl _ _) (hI.put (by decide) (by decide) (by decide) (by decide) (by decide) (by decide)) trivial rfl
      unfold execOp
      simp only [List.map_toArray, List.map_cons, List.map_nil, e8, ec]
      first | rfl | (go_simp; done) | (go_simp; rfl) | (go_simp; omega)
    · have ho2 := ho; simp only [List.getElem?_toArray, List.getElem?_cons_succ, List.getElem?_cons_zero, Option.some.injEq] at ho2; subst ho2
      have d0 : a.eval (.tmp 24) = .slice (some ⟨gb, off, none⟩) n sc := hdep ⟨0, .data⟩ (by simp) rfl
      have d1 : a.eval (.tmp 25) = .int .i64 (i : Nat) := hdep ⟨1, .data⟩ (by simp) rfl
      refine growA_val (I := (AB B 103 9 10 13 14 15 16 (.slice a1' p1 c1) (.slice a2' p2 c2) (.slice a3' p3 c3) (.slice a4' p4 c4))) (X := (fun _ _ _ => True)) (d := fd) (a := a) (w := w1) (.pointer (some ⟨gb, off + i * 2, none⟩)) w1 ho rfl ?_ (Below.refl _ _) (hI.put (by decide) (by decide) (by decide) (by decide) (by decide) (by decide)) trivial rfl
      unfold execOp
      simp only [List.map_toArray, List.map_cons, List.map_nil, d0, d1, ec]
      first | rfl | (go_simp; done) | (go_simp; rfl) | (go_simp; omega)
    · have ho2 := ho; simp only [List.getElem?_toArray, List.getElem?_cons_succ, List.getElem?_cons_zero, Option.some.injEq] at ho2; subst ho2
      have d0 : a.eval (.tmp 26) = .pointer (some ⟨gb, off + i * 2, none⟩) := hdep ⟨2, .data⟩ (by simp) rfl
      refine growA_val (I := (AB B 103 9 10 13 14 15 16 (.slice a1' p1 c1) (.slice a2' p2 c2) (.slice a3' p3 c3) (.slice a4' p4 c4))) (X := (fun _ _ _ => True)) (d := fd) (a := a) (w := w1) (.agg #[.slice a1' p1 c1, .slice a2' p2 c2]) w1 ho rfl ?_ (Below.refl _ _) (hI.put (by decide) (by decide) (by decide) (by decide) (by decide) (by decide)) trivial rfl
      unfold execOp
      simp only [List.map_toArray, List.map_cons, List.map_nil, d0, ec]
      first | rfl | (go_simp; done) | (go_simp; rfl) | (go_simp; omega)
    · have ho2 := ho; simp only [List.getElem?_toArray, List.getElem?_cons_succ, List.getElem?_cons_zero, Option.some.injEq] at ho2; subst ho2
      refine growA_val (I := (AB B 103 9 10 13 14 15 16 (.slice a1' p1 c1) (.slice a2' p2 c2) (.slice a3' p3 c3) (.slice a4' p4 c4))) (X := (fun _ _ _ => True)) (d := fd) (a := a) (w := w1) (.slice (some ⟨gb, off, none⟩) n sc) w1 ho rfl ?_ (Below.refl _ _) (hI.put (by decide) (by decide) (by decide) (by decide) (by decide) (by decide)) trivial rfl
      unfold execOp
      simp only [List.map_toArray, List.map_cons, List.map_nil, e7, ec]
      first | rfl | (go_simp; done) | (go_simp; rfl) | (go_simp; omega)
    · have ho2 := ho; simp only [List.getElem?_toArray, List.getElem?_cons_succ, List.getElem?_cons_zero, Option.some.injEq] at ho2; subst ho2
      refine growA_val (I := (AB B 103 9 10 13 14 15 16 (.slice a1' p1 c1) (.slice a2' p2 c2) (.slice a3' p3 c3) (.slice a4' p4 c4))) (X := (fun _ _ _ => True)) (d := fd) (a := a) (w := w1) (.int .i64 (i : Nat)) w1 ho rfl ?_ (Below.refl _ _) (hI.put (by decide) (by decide) (by decide) (by decide) (by decide) (by decide)) trivial rfl
      unfold execOp
      simp only [List.map_toArray, List.map_cons, List.map_nil, e8, ec]
      first | rfl | (go_simp; done) | (go_simp; rfl) | (go_simp; omega)
    · have ho2 := ho; simp only [List.getElem?_toArray, List.getElem?_cons_succ, List.getElem?_cons_zero, Option.some.injEq] at ho2; subst ho2
      have d0 : a.eval (.tmp 29) = .int .i64 (i : Nat) := hdep ⟨5, .data⟩ (by simp) rfl
      refine growA_val (I := (AB B 103 9 10 13 14 15 16 (.slice a1' p1 c1) (.slice a2' p2 c2) (.slice a3' p3 c3) (.slice a4' p4 c4))) (X := (fun _ _ _ => True)) (d := fd) (a := a) (w := w1) (.int .i64 ((i : Int) + 1)) w1 ho rfl ?_ (Below.refl _ _) (hI.put (by decide) (by decide) (by decide) (by decide) (by decide) (by decide)) trivial rfl
      unfold execOp
      simp only [List.map_toArray, List.map_cons, List.map_nil, d0, ec]
      go_simp
      first | done | rfl | (simp only [e30]; done) | (simp only [e30]; rfl)
    · have ho2 := ho; simp only [List.getElem?_toArray, List.getElem?_cons_succ, List.getElem?_cons_zero, Option.some.injEq] at ho2; subst ho2
      refine growA_val (I := (AB B 103 9 10 13 14 15 16 (.slice a1' p1 c1) (.slice a2' p2 c2) (.slice a3' p3 c3) (.slice a4' p4 c4))) (X := (fun _ _ _ => True)) (d := fd) (a := a) (w := w1) (.slice (some ⟨gb, off, none⟩) n sc) w1 ho rfl ?_ (Below.refl _ _) (hI.put (by decide) (by decide) (by decide) (by decide) (by decide) (by decide)) trivial rfl
      unfold execOp
      simp only [List.map_toArray, List.map_cons, List.map_nil, e7, ec]
      first | rfl | (go_simp; done) | (go_simp; rfl) | (go_simp; omega)
    · have ho2 := ho; simp only [List.getElem?_toArray, List.getElem?_cons_succ, List.getElem?_cons_zero, Option.some.injEq] at ho2; subst ho2
      have d0 : a.eval (.tmp 31) = .slice (some ⟨gb, off, none⟩) n sc := hdep ⟨7, .data⟩ (by simp) rfl
      refine growA_val (I := (AB B 103 9 10 13 14 15 16 (.slice a1' p1 c1) (.slice a2' p2 c2) (.slice a3' p3 c3) (.slice a4' p4 c4))) (X := (fun _ _ _ => True)) (d := fd) (a := a) (w := w1) (.int .i64 (n : Nat)) w1 ho rfl ?_ (Below.refl _ _) (hI.put (by decide) (by decide) (by decide) (by decide) (by decide) (by decide)) trivial rfl
      unfold execOp resolve
      simp only [List.map_toArray, List.map_cons, List.map_nil, d0, ec]
      first | rfl | (go_simp; done) | (go_simp; rfl)
    · have ho2 := ho; simp only [List.getElem?_toArray, List.getElem?_cons_succ, List.getElem?_cons_zero, Option.some.injEq] at ho2; subst ho2
      have d0 : a.eval (.tmp 32) = .int .i64 (n : Nat) := hdep ⟨8, .data⟩ (by simp) rfl
      refine growA_val (I := (AB B 103 9 10 13 14 15 16 (.slice a1' p1 c1) (.slice a2' p2 c2) (.slice a3' p3 c3) (.slice a4' p4 c4))) (X := (fun _ _ _ => True)) (d := fd) (a := a) (w := w1) (.int .i64 ((n : Int) - 1)) w1 ho rfl ?_ (Below.refl _ _) (hI.put (by decide) (by decide) (by decide) (by decide) (by decide) (by decide)) trivial rfl
      unfold execOp
      simp only [List.map_toArray, List.map_cons, List.map_nil, d0, ec]
      go_simp
      first | done | rfl | (simp only [e33]; done) | (simp only [e33]; rfl)
    · have ho2 := ho; simp only [List.getElem?_toArray, List.getElem?_cons_succ, List.getElem?_cons_zero, Option.some.injEq] at ho2; subst ho2
      have d0 : a.eval (.tmp 30) = .int .i64 ((i : Int) + 1) := hdep ⟨6, .data⟩ (by simp) rfl
      have d1 : a.eval (.tmp 33) = .int .i64 ((n : Int) - 1) := hdep ⟨9, .data⟩ (by simp) rfl
      refine growA_val (I := (AB B 103 9 10 13 14 15 16 (.slice a1' p1 c1) (.slice a2' p2 c2) (.slice a3' p3 c3) (.slice a4' p4 c4))) (X := (fun _ _ _ => True)) (d := fd) (a := a) (w := w1) (.int .i64 (j : Nat)) w1 ho rfl ?_ (Below.refl _ _) (hI.put (by decide) (by decide) (by decide) (by decide) (by decide) (by decide)) trivial rfl
      unfold execOp resolve
      simp only [List.map_toArray, List.map_cons, List.map_nil, d0, d1, ec]
      simp only [invoke, builtin, Sem.run_bind, Sem.run_pure, Result.andThen_ok, M w1]
    · have ho2 := ho; simp only [List.getElem?_toArray, List.getElem?_cons_succ, List.getElem?_cons_zero, Option.some.injEq] at ho2; subst ho2
      have d0 : a.eval (.tmp 28) = .slice (some ⟨gb, off, none⟩) n sc := hdep ⟨4, .data⟩ (by simp) rfl
      have d1 : a.eval (.tmp 34) = .int .i64 (j : Nat) := hdep ⟨10, .data⟩ (by simp) rfl
      refine growA_val (I := (AB B 103 9 10 13 14 15 16 (.slice a1' p1 c1) (.slice a2' p2 c2) (.slice a3' p3 c3) (.slice a4' p4 c4))) (X := (fun _ _ _ => True)) (d := fd) (a := a) (w := w1) (.pointer (some ⟨gb, off + j * 2, none⟩)) w1 ho rfl ?_ (Below.refl _ _) (hI.put (by decide) (by decide) (by decide) (by decide) (by decide) (by decide)) trivial rfl
      unfold execOp
      simp only [List.map_toArray, List.map_cons, List.map_nil, d0, d1, ec]
      first | rfl | (go_simp; done) | (go_simp; rfl) | (go_simp; omega)
    · have ho2 := ho; simp only [List.getElem?_toArray, List.getElem?_cons_succ, List.getElem?_cons_zero, Option.some.injEq] at ho2; subst ho2
      have d0 : a.eval (.tmp 35) = .pointer (some ⟨gb, off + j * 2, none⟩) := hdep ⟨11, .data⟩ (by simp) rfl
      refine growA_val (I := (AB B 103 9 10 13 14 15 16 (.slice a1' p1 c1) (.slice a2' p2 c2) (.slice a3' p3 c3) (.slice a4' p4 c4))) (X := (fun _ _ _ => True)) (d := fd) (a := a) (w := w1) (.agg #[.slice a3' p3 c3, .slice a4' p4 c4]) w1 ho rfl ?_ (Below.refl _ _) (hI.put (by decide) (by decide) (by decide) (by decide) (by decide) (by decide)) trivial rfl
      unfold execOp
      simp only [List.map_toArray, List.map_cons, List.map_nil, d0, ec]
      first | rfl | (go_simp; done) | (go_simp; rfl) | (go_simp; omega)
    · have ho2 := ho; simp only [List.getElem?_toArray, List.getElem?_cons_succ, List.getElem?_cons_zero, Option.some.injEq] at ho2; subst ho2
      refine growA_val (I := (AB B 103 9 10 13 14 15 16 (.slice a1' p1 c1) (.slice a2' p2 c2) (.slice a3' p3 c3) (.slice a4' p4 c4))) (X := (fun _ _ _ => True)) (d := fd) (a := a) (w := w1) (.pointer (some ⟨w1.heap.size, 0, none⟩)) (w1.alloc (.cells #[.slice none 0 0, .slice none 0 0] 25)) ho rfl ?_ ((Below.refl B w1).alloc hI.bz _) (hI.newA (by decide) (by decide) (by decide) (by decide) (by decide) hfd) trivial trivial
      unfold execOp
      go_simp
      first | done | rfl
    · have ho2 := ho; simp only [List.getElem?_toArray, List.getElem?_cons_succ, List.getElem?_cons_zero, Option.some.injEq] at ho2; subst ho2
      refine growA_val (I := (AB B 103 9 10 13 14 15 16 (.slice a1' p1 c1) (.slice a2' p2 c2) (.slice a3' p3 c3) (.slice a4' p4 c4))) (X := (fun _ _ _ => True)) (d := fd) (a := a) (w := w1) (.pointer (some ⟨w1.heap.size, 0, none⟩)) (w1.alloc (.cells #[.slice none 0 0, .slice none 0 0] 25)) ho rfl ?_ ((Below.refl B w1).alloc hI.bz _) (hI.newB (by decide) (by decide) (by decide) (by decide) (by decide) hfd) trivial trivial
      unfold execOp
      go_simp
      first | done | rfl
    · have ho2 := ho; simp only [List.getElem?_toArray, List.getElem?_cons_succ, List.getElem?_cons_zero, Option.some.injEq] at ho2; subst ho2
      have hjd : fd 13 = true := hdd ⟨13, .data⟩ (by simp) rfl
      obtain ⟨p, hp, hpB, hpz⟩ := hI.pa hjd
      rw [hfd] at hpz
      simp only [Bool.false_eq_true, if_false, nilC] at hpz
      have d1 : a.eval (.tmp 9) = .pointer (some ⟨p, 0, none⟩) := hp
      have d2 : a.eval (.tmp 27) = .agg #[.slice a1' p1 c1, .slice a2' p2 c2] := hdep ⟨3, .data⟩ (by simp) rfl
      have f0 := hpz.frozen 0
      have f1 := hpz.frozen 1
      have g0 := hpz.cell 0
      have g1 := hpz.cell 1
      simp only [List.getElem?_cons_succ, List.getElem?_cons_zero] at g0 g1
      refine growA_skip (I := (AB B 103 9 10 13 14 15 16 (.slice a1' p1 c1) (.slice a2' p2 c2) (.slice a3' p3 c3) (.slice a4' p4 c4))) (X := (fun _ _ _ => True)) (d := fd) (a := a) (w := w1) ((w1.setCell ⟨p, 0, none⟩ (.slice a1' p1 c1)).setCell ⟨p, 1, none⟩ (.slice a2' p2 c2)) ho rfl rfl ?_ (((Below.refl B w1).setCell hpB _).setCell hpB _) (hI.fillA (by decide) (by decide) (by decide) hjd hfd hp) trivial trivial
      unfold execOp
      simp only [d1, d2, ec]
      go_simp
    · have ho2 := ho; simp only [List.getElem?_toArray, List.getElem?_cons_succ, List.getElem?_cons_zero, Option.some.injEq] at ho2; subst ho2
      have hjd : fd 14 = true := hdd ⟨14, .data⟩ (by simp) rfl
      obtain ⟨p, hp, hpB, hpz⟩ := hI.pb hjd
      rw [hfd] at hpz
      simp only [Bool.false_eq_true, if_false, nilC] at hpz
      have d1 : a.eval (.tmp 10) = .pointer (some ⟨p, 0, none⟩) := hp
      have d2 : a.eval (.tmp 36) = .agg #[.slice a3' p3 c3, .slice a4' p4 c4] := hdep ⟨12, .data⟩ (by simp) rfl
      have f0 := hpz.frozen 0
      have f1 := hpz.frozen 1
      have g0 := hpz.cell 0
      have g1 := hpz.cell 1
      simp only [List.getElem?_cons_succ, List.getElem?_cons_zero] at g0 g1
      refine growA_skip (I := (AB B 103 9 10 13 14 15 16 (.slice a1' p1 c1) (.slice a2' p2 c2) (.slice a3' p3 c3) (.slice a4' p4 c4))) (X := (fun _ _ _ => True)) (d := fd) (a := a) (w := w1) ((w1.setCell ⟨p, 0, none⟩ (.slice a3' p3 c3)).setCell ⟨p, 1, none⟩ (.slice a4' p4 c4)) ho rfl rfl ?_ (((Below.refl B w1).setCell hpB _).setCell hpB _) (hI.fillB (by decide) (by decide) (by decide) hjd hfd hp) trivial trivial
      unfold execOp
      simp only [d1, d2, ec]
      go_simp
  · intro a w1 hI hb hj
    obtain ⟨p, h1, _, h2⟩ := hI.pa (by decide)
    obtain ⟨q, q1, _, q2⟩ := hI.pb (by decide)
    rw [if_pos (by decide)] at h2 q2
    exact ⟨p, q, h1, q1, h2, q2, (Below.refl B w2).drew.trans hb⟩
  rintro ts w3 ⟨gp, gq, h10, h11, hx, hy, hb3⟩
  simp only [fill, List.setIfInBounds_toArray, List.set_cons_succ, List.set_cons_zero]
  rw [h10, h11]
  rw [← hB] at hb3
  have HDA3 := Lib.hid (HDA.out.later hb3)
  have HDB3 := Lib.hid (HDB.out.later hb3)
  have HPA := Lib.hid (pr_mk HDA3.out HP.out.1)
  have HPB := Lib.hid (pr_mk HDB3.out HP.out.2)
  have HRK := Lib.hid HDA3.out.c
  unfold Sx.v at HRK
  simp only at HRK
  rw [HP.out.1.1] at HRK
  have HN3 := Lib.hid (HN2.out.later hb3)
  have HT3 := Lib.hid (HT2.out.later hb3)
  have HB3 := Lib.hid (up HB2.out hb3)
  have HX := Lib.hid hx
  have HY := Lib.hid hy
  have HRW := Lib.hid (lRowOf (.slice a1' p1 c1) nv la nl w3 HRK.out HN3.out.rd HAL.out HMAY.out HN3.out.i)
  rw [HRR.out] at HRW
  have x0 := hx.cell 0
  simp only [List.getElem?_cons_succ, List.getElem?_cons_zero] at x0
  clear h10 h11 hx hy hb3 HN2 HT2 HB2 HR HDA HDB HRK e30 e33 hB M HMN HHA HHB
  go_wp2_with fail
  clear x0
  ((with_reducible refine HRW.out.mono ?_); rintro e w4 ⟨rv, rfl, ho, b⟩)
  have HRC := Lib.hid (RdC.of ho)
  have HT4 := Lib.hid (HT3.out.later b)
  have HB4 := Lib.hid (up HB3.out b)
  have HX4 := Lib.hid (HX.out.later b)
  have HY4 := Lib.hid (HY.out.later b)
  have HDA4 := Lib.hid (HDA3.out.later b)
  have HDB4 := Lib.hid (HDB3.out.later b)
  have HBD : Hid (rr.length ≤ 1000000 ∧ (∀ c ∈ rr, Cl.I64 c.n) ∧ ∀ c ∈ rr, c.s.size ≤ 1000000) := Lib.hid ⟨by have := HRL.out; have := HAL.out; omega, fun c hc => (HSL.out c hc).1, fun c hc => by have := (HSL.out c hc).2; omega⟩
  have HMV := Lib.hid (mvL _ _ HOA.out HOB.out w4 HT4.out (HPA.out.later b) (HPB.out.later b) rv rr HRC.out HBD.out _ HMO.out)
  have x0 := HX4.out.cell 0
  have x1 := HX4.out.cell 1
  have y0 := HY4.out.cell 0
  have y1 := HY4.out.cell 1
  simp only [List.getElem?_cons_succ, List.getElem?_cons_zero] at x0 x1 y0 y1
  clear HRW ho b HT3 HB3 HX HY HPA HPB HN3 HDA3 HDB3
  go_wp2_with fail
  clear x0 x1 y0 y1
  ((with_reducible refine HMV.out.mono ?_); rintro e w5 ⟨u1, rfl, ho1, b⟩)
  simp only at ho1
  have hml : (Ev.mvd la lb rr).length = p3 := by rw [Ev.mvd_len, HP.out.2.1]
  obtain ⟨ua, uc, hu, _⟩ := Gn.Rd.form (RdC.of ho1)
  rw [hml] at hu
  subst hu
  obtain ⟨ra, rc, hrv, _⟩ := Gn.Rd.form HRC.out
  rw [HRL.out, HP.out.1.1] at hrv
  subst hrv
  have HU1 := Lib.hid (RdC.of ho1)
  have HRC5 := Lib.hid (HRC.out.later b)
  have HDA5 := Lib.hid (HDA4.out.later b)
  have HKB := Lib.hid (HDB4.out.later b).c
  unfold Sx.v at HKB
  simp only at HKB
  rw [HP.out.2.1] at HKB
  have HKA := Lib.hid HDA5.out.c
  unfold Sx.v at HKA
  simp only at HKA
  rw [HP.out.1.1] at HKA
  have HX5 := Lib.hid (HX4.out.later b)
  have HY5 := Lib.hid (HY4.out.later b)
  have HT5 := Lib.hid (HT4.out.later b)
  have HB5 := Lib.hid (up HB4.out b)
  have y0 := HY5.out.cell 0
  simp only [List.getElem?_cons_succ, List.getElem?_cons_zero] at y0
  have HML := Lib.hid hml
  have HP1 := Lib.hid (show la.length = p1 ∧ lb.length = p3 ∧ rr.length = p1 from ⟨HP.out.1.1, HP.out.2.1, by rw [HRL.out, HP.out.1.1]⟩)
  have hp3b : p3 ≤ 1000 := by have := HBL.out; have := HP1.out.2.1; omega
  clear HMV ho1 b HRC HT4 HB4 HX4 HY4 HDA4 HDB4 hml HDA5
  go_wp2_with fail
  clear y0
  try simp only [Array.getD_eq_getD_getElem?]
  go_loopw [14] (fun iv wr => ∃ k : Nat, k ≤ p3 ∧ iv = .int .i64 (k : Nat) ∧ Hid (Below w5.heap.size w5 wr)) (fun iv _ => p3 - (intOf iv).toNat)
  case atStart => exact ⟨0, by omega, by rfl, Lib.hid (Below.refl _ _)⟩
  case round =>
    obtain ⟨k, hk, rfl, HW⟩ := hrel
    by_cases hlt : k < p3
    · obtain ⟨wo, hwo⟩ : ∃ z, z = wr := ⟨_, rfl⟩
      subst hwo
      have hlt1 : (k : Int) < (p3 : Int) := by omega
      obtain ⟨x, hx⟩ : ∃ x, lb[k]? = some x := ⟨_, List.getElem?_eq_getElem (by have := HP1.out.2.1; omega)⟩
      obtain ⟨gk, fk, e3, hck⟩ := rdK_all HKB.out hx
      subst e3
      obtain ⟨⟨pn, y⟩, hfid⟩ : ∃ q, Ev.fid la x.id = q := ⟨_, rfl⟩
      have hmv := Ev.mvd_at (a := la) (r := rr) hx
      have hmv1 : Ev.mv1 la rr x = if y = true then rr.getD pn Cl.empty else x.d := by unfold Ev.mv1; rw [hfid]
      have HPL := Lib.hid (fun w1 h => cPlace (.slice a1' p1 c1) (.slice a2' p2 c2) la x.id w1 h (by have := HAL.out; omega) pn y hfid)
      have hz : y = true → ∃ z, rr[pn]? = some z := fun e => by
        subst e
        obtain ⟨d, hd, _⟩ := Ev.fid_some hfid
        exact ⟨_, List.getElem?_eq_getElem (by have := (List.getElem?_eq_some_iff.1 hd).1; have := HP1.out; omega)⟩
      have HHZ := Lib.hid hz
      have HMV1 := Lib.hid hmv1
      have HMVA := Lib.hid hmv
      have HCK := Lib.hid hck
      clear hz hmv hmv1 hck hx hfid
      obtain ⟨xi, xm, xk, xu, ⟨du, dn, ds⟩⟩ := x
      simp only at HMV1 HCK HPL
      go_upto_region 11 with fail
      refine region_growI_merge (fun u v : World => Below u.heap.size u v) (fun _ _ => True) (fun _ _ _ => True) (fun u => Below.refl _ _) (fun _ _ _ h k => up h k) (kjI #[Spc.eq (.agg #[.slice a1' p1 c1, .slice a2' p2 c2]), Spc.eq (.pointer (some ⟨gq, 0, none⟩)), Spc.eq (.slice (some ⟨gk, fk, none⟩) p3 c3), Spc.eq (.int .i64 (k : Nat)), Spc.eq (.pointer (some ⟨gk, fk + k * 7, none⟩)), Spc.eq (.pointer (some ⟨gk, fk + k * 7, none⟩)), Spc.eq (.int .i64 xi), Spc.eq (.tuple #[.int .i64 (pn : Nat), .bool y]), Spc.eq (.tuple #[.int .i64 (pn : Nat), .bool y]), Spc.eq (.int .i64 (pn : Nat)), Spc.eq (.bool y), Spc.eq (.int .i64 (pn : Nat)), Spc.eq (.bool y)]) [65, 66, 67, 68, 69, 70, 71, 72, 64, 73, 74, 15, 16] (fun ts W => ts.getD 15 undef = .int .i64 (pn : Nat) ∧ ts.getD 16 undef = .bool y ∧ Below wo.heap.size wo W) (by kernel_rfl) (by kernel_rfl) (by kernel_rfl) kjI_later trivial ?_ ?_ ?_
      · intro QQ fd jo o a w1 ho hfd hdd hI hb hs hold hdep
        have hjo : jo < 13 := (Array.getElem?_eq_some_iff.1 ho).1
        have hb' : Below wo.heap.size wo w1 := up (Below.refl _ _).drew hb
        have hbo : Below w5.heap.size w5 w1 := up HW.out hb'
        obtain ⟨s0, _⟩ := HCK.out w1 hbo
        have t0 := (HX5.out.later hbo).cell 0
        have t1 := (HX5.out.later hbo).cell 1
        have r0 := (HY5.out.later hbo).cell 0
        simp only [List.getElem?_cons_succ, List.getElem?_cons_zero] at t0 t1 r0
        have e9 : a.eval (.tmp 9) = .pointer (some ⟨gp, 0, none⟩) := by
          show a.tmps.getD 9 undef = _
          rw [Array.getD_eq_getD_getElem?, hold 9 (by decide +kernel)]; rfl
        have e10 : a.eval (.tmp 10) = .pointer (some ⟨gq, 0, none⟩) := by
          show a.tmps.getD 10 undef = _
          rw [Array.getD_eq_getD_getElem?, hold 10 (by decide +kernel)]; rfl
        have e14 : a.eval (.tmp 14) = .int .i64 (k : Nat) := by
          show a.tmps.getD 14 undef = _
          rw [Array.getD_eq_getD_getElem?, hold 14 (by decide +kernel)]; rfl
        have ec : ∀ v, a.eval (.const v) = v := fun _ => rfl
        clear hold hs
        rcases (show jo = 0 ∨ jo = 1 ∨ jo = 2 ∨ jo = 3 ∨ jo = 4 ∨ jo = 5 ∨ jo = 6 ∨ jo = 7 ∨ jo = 8 ∨ jo = 9 ∨ jo = 10 ∨ jo = 11 ∨ jo = 12 by omega) with rfl | rfl | rfl | rfl | rfl | rfl | rfl | rfl | rfl | rfl | rfl | rfl | rfl
        · have ho2 := ho; simp only [List.getElem?_toArray, List.getElem?_cons_succ, List.getElem?_cons_zero, Option.some.injEq] at ho2; subst ho2
          refine growI_val (I := (fun _ _ => True)) (X := (fun _ _ _ => True)) (d := fd) (a := a) (w := w1) (.agg #[.slice a1' p1 c1, .slice a2' p2 c2]) w1 ho rfl ?_ ((fun u => Below.refl _ _) w1) trivial trivial rfl
          unfold execOp
          simp only [List.map_toArray, List.map_cons, List.map_nil, e9, ec]
          first | rfl | (go_simp; done) | (go_simp; rfl) | (go_simp; omega)
        · have ho2 := ho; simp only [List.getElem?_toArray, List.getElem?_cons_succ, List.getElem?_cons_zero, Option.some.injEq] at ho2; subst ho2
          refine growI_val (I := (fun _ _ => True)) (X := (fun _ _ _ => True)) (d := fd) (a := a) (w := w1) (.pointer (some ⟨gq, 0, none⟩)) w1 ho rfl ?_ ((fun u => Below.refl _ _) w1) trivial trivial rfl
          unfold execOp
          simp only [List.map_toArray, List.map_cons, List.map_nil, e10, ec]
          first | rfl | (go_simp; done) | (go_simp; rfl) | (go_simp; omega)
        · have ho2 := ho; simp only [List.getElem?_toArray, List.getElem?_cons_succ, List.getElem?_cons_zero, Option.some.injEq] at ho2; subst ho2
          have d0 : a.eval (.tmp 66) = .pointer (some ⟨gq, 0, none⟩) := hdep ⟨1, .data⟩ (by simp) rfl
          refine growI_val (I := (fun _ _ => True)) (X := (fun _ _ _ => True)) (d := fd) (a := a) (w := w1) (.slice (some ⟨gk, fk, none⟩) p3 c3) w1 ho rfl ?_ ((fun u => Below.refl _ _) w1) trivial trivial rfl
          unfold execOp
          simp only [List.map_toArray, List.map_cons, List.map_nil, d0, ec]
          first | rfl | (go_simp; done) | (go_simp; rfl) | (go_simp; omega)
        · have ho2 := ho; simp only [List.getElem?_toArray, List.getElem?_cons_succ, List.getElem?_cons_zero, Option.some.injEq] at ho2; subst ho2
          refine growI_val (I := (fun _ _ => True)) (X := (fun _ _ _ => True)) (d := fd) (a := a) (w := w1) (.int .i64 (k : Nat)) w1 ho rfl ?_ ((fun u => Below.refl _ _) w1) trivial trivial rfl
          unfold execOp
          simp only [List.map_toArray, List.map_cons, List.map_nil, e14, ec]
          first | rfl | (go_simp; done) | (go_simp; rfl) | (go_simp; omega)
        · have ho2 := ho; simp only [List.getElem?_toArray, List.getElem?_cons_succ, List.getElem?_cons_zero, Option.some.injEq] at ho2; subst ho2
          have d0 : a.eval (.tmp 67) = .slice (some ⟨gk, fk, none⟩) p3 c3 := hdep ⟨2, .data⟩ (by simp) rfl
          have d1 : a.eval (.tmp 68) = .int .i64 (k : Nat) := hdep ⟨3, .data⟩ (by simp) rfl
          refine growI_val (I := (fun _ _ => True)) (X := (fun _ _ _ => True)) (d := fd) (a := a) (w := w1) (.pointer (some ⟨gk, fk + k * 7, none⟩)) w1 ho rfl ?_ ((fun u => Below.refl _ _) w1) trivial trivial rfl
          unfold execOp
          simp only [List.map_toArray, List.map_cons, List.map_nil, d0, d1, ec]
          first | rfl | (go_simp; done) | (go_simp; rfl) | (go_simp; omega)
        · have ho2 := ho; simp only [List.getElem?_toArray, List.getElem?_cons_succ, List.getElem?_cons_zero, Option.some.injEq] at ho2; subst ho2
          have d0 : a.eval (.tmp 69) = .pointer (some ⟨gk, fk + k * 7, none⟩) := hdep ⟨4, .data⟩ (by simp) rfl
          refine growI_val (I := (fun _ _ => True)) (X := (fun _ _ _ => True)) (d := fd) (a := a) (w := w1) (.pointer (some ⟨gk, fk + k * 7, none⟩)) w1 ho rfl ?_ ((fun u => Below.refl _ _) w1) trivial trivial rfl
          unfold execOp
          simp only [List.map_toArray, List.map_cons, List.map_nil, d0, ec]
          first | rfl | (go_simp; done) | (go_simp; rfl) | (go_simp; omega)
        · have ho2 := ho; simp only [List.getElem?_toArray, List.getElem?_cons_succ, List.getElem?_cons_zero, Option.some.injEq] at ho2; subst ho2
          have d0 : a.eval (.tmp 70) = .pointer (some ⟨gk, fk + k * 7, none⟩) := hdep ⟨5, .data⟩ (by simp) rfl
          refine growI_val (I := (fun _ _ => True)) (X := (fun _ _ _ => True)) (d := fd) (a := a) (w := w1) (.int .i64 xi) w1 ho rfl ?_ ((fun u => Below.refl _ _) w1) trivial trivial rfl
          unfold execOp
          simp only [List.map_toArray, List.map_cons, List.map_nil, d0, ec]
          first | rfl | (go_simp; done) | (go_simp; rfl) | (go_simp; omega)
        · have ho2 := ho; simp only [List.getElem?_toArray, List.getElem?_cons_succ, List.getElem?_cons_zero, Option.some.injEq] at ho2; subst ho2
          have d0 : a.eval (.tmp 65) = .agg #[.slice a1' p1 c1, .slice a2' p2 c2] := hdep ⟨0, .data⟩ (by simp) rfl
          have d1 : a.eval (.tmp 71) = .int .i64 xi := hdep ⟨6, .data⟩ (by simp) rfl
          refine growI_call (I := (fun _ _ => True)) (X := (fun _ _ _ => True)) (d := fd) (a := a) (w := w1) 32 #[.agg #[.slice a1' p1 c1, .slice a2' p2 c2], .int .i64 xi] ho rfl ?_ ((HPL.out w1 (Gn.Rd.later HKA.out hbo)).mono ?_)
          · unfold execOp resolve
            simp only [List.map_toArray, List.map_cons, List.map_nil, d0, d1, ec]
            rfl
          · rintro e c1 ⟨rfl, hb2⟩
            exact ⟨_, rfl, rfl, hb2, trivial, trivial⟩
        · have ho2 := ho; simp only [List.getElem?_toArray, List.getElem?_cons_succ, List.getElem?_cons_zero, Option.some.injEq] at ho2; subst ho2
          have d0 : a.eval (.tmp 72) = .tuple #[.int .i64 (pn : Nat), .bool y] := hdep ⟨7, .data⟩ (by simp) rfl
          refine growI_val (I := (fun _ _ => True)) (X := (fun _ _ _ => True)) (d := fd) (a := a) (w := w1) (.tuple #[.int .i64 (pn : Nat), .bool y]) w1 ho rfl ?_ ((fun u => Below.refl _ _) w1) trivial trivial rfl
          unfold execOp
          simp only [List.map_toArray, List.map_cons, List.map_nil, d0, ec]
          first | rfl | (go_simp; done) | (go_simp; rfl) | (go_simp; omega)
        · have ho2 := ho; simp only [List.getElem?_toArray, List.getElem?_cons_succ, List.getElem?_cons_zero, Option.some.injEq] at ho2; subst ho2
          have d0 : a.eval (.tmp 64) = .tuple #[.int .i64 (pn : Nat), .bool y] := hdep ⟨8, .data⟩ (by simp) rfl
          refine growI_val (I := (fun _ _ => True)) (X := (fun _ _ _ => True)) (d := fd) (a := a) (w := w1) (.int .i64 (pn : Nat)) w1 ho rfl ?_ ((fun u => Below.refl _ _) w1) trivial trivial rfl
          unfold execOp
          simp only [List.map_toArray, List.map_cons, List.map_nil, d0, ec]
          first | rfl | (go_simp; done) | (go_simp; rfl) | (go_simp; omega)
        · have ho2 := ho; simp only [List.getElem?_toArray, List.getElem?_cons_succ, List.getElem?_cons_zero, Option.some.injEq] at ho2; subst ho2
          have d0 : a.eval (.tmp 64) = .tuple #[.int .i64 (pn : Nat), .bool y] := hdep ⟨8, .data⟩ (by simp) rfl
          refine growI_val (I := (fun _ _ => True)) (X := (fun _ _ _ => True)) (d := fd) (a := a) (w := w1) (.bool y) w1 ho rfl ?_ ((fun u => Below.refl _ _) w1) trivial trivial rfl
          unfold execOp
          simp only [List.map_toArray, List.map_cons, List.map_nil, d0, ec]
          first | rfl | (go_simp; done) | (go_simp; rfl) | (go_simp; omega)
        · have ho2 := ho; simp only [List.getElem?_toArray, List.getElem?_cons_succ, List.getElem?_cons_zero, Option.some.injEq] at ho2; subst ho2
          have d0 : a.eval (.tmp 73) = .int .i64 (pn : Nat) := hdep ⟨9, .data⟩ (by simp) rfl
          refine growI_val (I := (fun _ _ => True)) (X := (fun _ _ _ => True)) (d := fd) (a := a) (w := w1) (.int .i64 (pn : Nat)) w1 ho rfl ?_ ((fun u => Below.refl _ _) w1) trivial trivial rfl
          unfold execOp
          simp only [List.map_toArray, List.map_cons, List.map_nil, d0, ec]
          first | rfl | (go_simp; done) | (go_simp; rfl) | (go_simp; omega)
        · have ho2 := ho; simp only [List.getElem?_toArray, List.getElem?_cons_succ, List.getElem?_cons_zero, Option.some.injEq] at ho2; subst ho2
          have d0 : a.eval (.tmp 74) = .bool y := hdep ⟨10, .data⟩ (by simp) rfl
          refine growI_val (I := (fun _ _ => True)) (X := (fun _ _ _ => True)) (d := fd) (a := a) (w := w1) (.bool y) w1 ho rfl ?_ ((fun u => Below.refl _ _) w1) trivial trivial rfl
          unfold execOp
          simp only [List.map_toArray, List.map_cons, List.map_nil, d0, ec]
          first | rfl | (go_simp; done) | (go_simp; rfl) | (go_simp; omega)
      · intro a w1 hI hb hj
        have hb' : Below wo.heap.size wo w1 := up (Below.refl _ _).drew hb
        exact ⟨hj 11 (by decide), hj 12 (by decide), hb'⟩
      rintro ts11 w6 ⟨h15, h16, hb6⟩
      simp only [fill, List.setIfInBounds_toArray, List.set_cons_succ, List.set_cons_zero]
      rw [h15, h16]
      have hb56 := up HW.out hb6
      obtain ⟨_, _, _, _, s4, s5, s6⟩ := HCK.out w6 hb56
      have r0 := (HY5.out.later hb56).cell 0
      simp only [List.getElem?_cons_succ, List.getElem?_cons_zero] at r0 s4 s5 s6
      have HB56 := Lib.hid hb56
      clear h15 h16 hb6 hb56 HPL HW
      go_upto_region 13 with fail
      clear s4 s5 s6 r0
      have hbk := Blk.new w6 61 #[.bool du, .int .i64 dn, .string ds]
      have hb7 := up HB56.out (box_new w6 (.cells #[.bool du, .int .i64 dn, .string ds] 61))
      have hgw := HB56.out.size
      obtain ⟨gW, hgW⟩ : ∃ g, w6.heap.size = g := ⟨_, rfl⟩
      simp only [hgW] at hbk hgw ⊢
      generalize w6.alloc (.cells #[.bool du, .int .i64 dn, .string ds] 61) = w7 at *
      clear hgW HB56
      obtain ⟨zz, hzz⟩ : ∃ zz, Ev.mv1 la rr ⟨xi, xm, xk, xu, ⟨du, dn, ds⟩⟩ = zz := ⟨_, rfl⟩
      rw [hzz] at HMV1 HMVA
      have HUC := Lib.hid (fun w1 (hb : Below w5.heap.size w5 w1) => rdC_cells HU1.out hb HMVA.out)
      cases y with
      | true =>
        obtain ⟨z, hz⟩ := HHZ.out rfl
        have hzv : zz = z := by rw [HMV1.out, if_pos rfl, List.getD_eq_getElem?_getD, hz]; rfl
        subst hzv
        have hpn : (pn : Int) < (p1 : Int) := by have := (List.getElem?_eq_some_iff.1 hz).1; have := HP1.out; omega
        obtain ⟨zu, zn, zs⟩ := zz
        obtain ⟨gr, fr, e4, c0, c1', c2'⟩ := rdC_cells HRC5.out hb7 hz
        subst e4
        have v0 := hbk.cell 0
        have v1 := hbk.cell 1
        have v2 := hbk.cell 2
        have f0 := hbk.frozen 0
        have f1 := hbk.frozen 1
        have f2 := hbk.frozen 2
        simp only [List.getElem?_cons_succ, List.getElem?_cons_zero] at v0 v1 v2 c0 c1' c2'
        have hbk2 := Blk.put (Blk.put (Blk.put hbk 0 (.bool zu)) 1 (.int .i64 zn)) 2 (.string zs)
        have hb8 := ((hb7.setCell (p := ⟨gW, 0, none⟩) hgw (.bool zu)).setCell (p := ⟨gW, 1, none⟩) hgw (.int .i64 zn)).setCell (p := ⟨gW, 2, none⟩) hgw (.string zs)
        simp only [List.set_cons_succ, List.set_cons_zero] at hbk2
        have HBK2 := Lib.hid hbk2
        have HB8 := Lib.hid hb8
        clear hbk hb7 hbk2 hb8 hz HHZ HMV1
        go_upto_region 15 with fail
        clear v0 v1 v2 f0 f1 f2 c0 c1' c2'
        generalize ((w7.setCell ⟨gW, 0, none⟩ (.bool zu)).setCell ⟨gW, 1, none⟩ (.int .i64 zn)).setCell ⟨gW, 2, none⟩ (.string zs) = w8 at *
        obtain ⟨gu, fu, e5, d0, d1, d2⟩ := HUC.out w8 HB8.out
        subst e5
        have v0 := HBK2.out.cell 0
        have v1 := HBK2.out.cell 1
        have v2 := HBK2.out.cell 2
        simp only [List.getElem?_cons_succ, List.getElem?_cons_zero] at v0 v1 v2 d0 d1 d2
        have heq := fun w => run_eqc ⟨zu, zn, zs⟩ ⟨zu, zn, zs⟩ w
        rw [(eqc_iff ⟨zu, zn, zs⟩ ⟨zu, zn, zs⟩).2 rfl] at heq
        unfold cv at heq
        have HU2 := Lib.hid HB8.out.drew
        clear HUC HBK2 HB8 hzz HMVA
        go_region
        all_goals
          go_wp2_with fail
          go_roundw
          case rel => exact ⟨k + 1, by omega, by go_num, HU2⟩
          case measure => simp [intOf]; omega
      | false =>
        have hzv : zz = ⟨du, dn, ds⟩ := by rw [HMV1.out, if_neg (by decide)]
        subst hzv
        have HBK2 := Lib.hid hbk
        have HB8 := Lib.hid hb7
        clear hbk hb7 HHZ HMV1
        go_upto_region 15 with fail
        obtain ⟨gu, fu, e5, d0, d1, d2⟩ := HUC.out w7 HB8.out
        subst e5
        have v0 := HBK2.out.cell 0
        have v1 := HBK2.out.cell 1
        have v2 := HBK2.out.cell 2
        simp only [List.getElem?_cons_succ, List.getElem?_cons_zero] at v0 v1 v2 d0 d1 d2
        have heq := fun w => run_eqc ⟨du, dn, ds⟩ ⟨du, dn, ds⟩ w
        rw [(eqc_iff ⟨du, dn, ds⟩ ⟨du, dn, ds⟩).2 rfl] at heq
        unfold cv at heq
        have HU2 := Lib.hid HB8.out.drew
        clear HUC HBK2 HB8 hzz HMVA
        go_region
        all_goals
          go_wp2_with fail
          go_roundw
          case rel => exact ⟨k + 1, by omega, by go_num, HU2⟩
          case measure => simp [intOf]; omega
    · have hlt1 : ¬ (k : Int) < (p3 : Int) := by omega
      have HT6 := Lib.hid (HT5.out.later HW.out)
      have HB6 := Lib.hid (up HB5.out HW.out)
      clear HW HT5 HB5
      go_wp2_with fail
      ((with_reducible refine (works12 wr HT6.out).mono ?_); rintro e w9 ⟨rfl, b⟩)
      go_wp2
      go_ret
      exact ⟨rfl, up HB6.out b⟩
end Go.Proofs.YtigcgkhcbmnboaaGreatDoor
