/- JshowSame: the walk. -/
import Derived.Test.YtgmdjofnkbaflaaGreatDoorIdem8
import Derived.Test.YtgmdjofnkbaflaaGreatDoorSame
import Derived.Test.YtgmdjofnkbaflaaGreatDoorEq8
import Derived.Deep.RegionHeld3
namespace Go.Proofs.YtgmdjofnkbaflaaGreatDoor
open Go.RowKit
set_option linter.unusedVariables false
set_option maxRecDepth 100000
attribute [local go_sem] Oper.semAt_some

set_option maxHeartbeats 40000000 in
theorem jshowSame (sv : Value) (ns : List Int) (rv : Value) (ms : List Int) (sm0 : Bool) (W : World) (h1 : RdI W W.heap.size sv ns) (hok1 : ∀ x ∈ ns, -9223372036854775808 ≤ x ∧ x ≤ 9223372036854775807) (h2 : RdI W W.heap.size rv ms) (hok2 : ∀ x ∈ ms, -9223372036854775808 ≤ x ∧ x ≤ 9223372036854775807) (T : Tab W) (TE : TabE W) (TP : TabP W) :
    Calls Tryz.prog 10 #[.agg #[sv], .agg #[rv], .bool sm0] W fun e w' => e = .returned (.bool true) ∧ Below W.heap.size W w' := by
  obtain ⟨sa, sc, rfl, _⟩ := Gn.Rd.form h1
  obtain ⟨ra, rc, rfl, _⟩ := Gn.Rd.form h2
  obtain ⟨N, hN⟩ : ∃ N, ns.length = N := ⟨_, rfl⟩
  obtain ⟨M, hM⟩ : ∃ M, ms.length = M := ⟨_, rfl⟩
  rw [hN] at h1 ⊢
  rw [hM] at h2 ⊢
  obtain ⟨wb, hwb⟩ : ∃ wb, wb = (W.alloc (.cells #[.slice sa N sc] 45)).alloc (.cells #[.slice ra M rc] 45) := ⟨_, rfl⟩
  have HBB : Hid (Below W.heap.size W wb) := Lib.hid (by rw [hwb]; exact up (up_new W _) (up_new _ _))
  have SK : Hid (∀ w', Below wb.heap.size wb w' → Below wb.heap.size wb w' ∧ (w'.cell? ⟨W.heap.size, 0, none⟩ = some (.slice sa N sc) ∧ w'.cell? ⟨W.heap.size + 1, 0, none⟩ = some (.slice ra M rc))) := Lib.hid (by
    intro w' hb
    have k1 : Blk wb W.heap.size 45 [.slice sa N sc] := by rw [hwb]; exact (Blk.new W 45 #[.slice sa N sc]).later (up_new _ _)
    have k2 : Blk wb (W.heap.size + 1) 45 [.slice ra M rc] := by
      have := Blk.new (W.alloc (.cells #[.slice sa N sc] 45)) 45 #[.slice ra M rc]
      rw [World.size_alloc] at this
      rw [hwb]
      exact this
    exact ⟨hb, by rw [(k1.later hb).cell 0]; rfl, by rw [(k2.later hb).cell 0]; rfl⟩)
  have HT := Lib.hid (T.later HBB.out)
  have HTE := Lib.hid (TE.later HBB.out)
  have HTP := Lib.hid (TP.later HBB.out)
  have CA := Lib.hid (fun wx (hb : Below wb.heap.size wb wx) => S8.drawnC (.slice sa N sc) ns wx (Gn.Rd.later (Gn.Rd.later h1 HBB.out) hb) hok1 (HT.out.later hb))
  have CC := Lib.hid (fun wx (hb : Below wb.heap.size wb wx) => S8.drawnC (.slice ra M rc) ms wx (Gn.Rd.later (Gn.Rd.later h2 HBB.out) hb) hok2 (HT.out.later hb))
  have CW := Lib.hid (fun wx (hb : Below wb.heap.size wb wx) => works8 wx (HT.out.later hb) (HTP.out.later hb))
  clear h1 h2 hok1 hok2 T TE TP hN hM
  go_enter Tryz.func10, Tryz.ntmps10
  go_wp2_with fail
  rw [← hwb]
  clear hwb
  go_region_held3 (fun w' => Below wb.heap.size wb w' ∧ (w'.cell? ⟨W.heap.size, 0, none⟩ = some (.slice sa N sc) ∧ w'.cell? ⟨W.heap.size + 1, 0, none⟩ = some (.slice ra M rc)))
    (first | exact SK.out _ (Below.refl _ _).drew | exact SK.out _ (Below.refl _ _) | exact SK.out _ HA.out | exact SK.out _ HC.out | fail "keep")
    ((first
      | (go_at_call 23; (with_reducible refine (CA.out _ (by first | exact HC.out | exact (Below.refl _ _).drew | exact (Below.refl _ _))).mono ?_); rintro e wA ⟨v, F, rfl, ho, hd, b⟩; have HA : Hid (Below wb.heap.size wb wA) := Lib.hid (by first | exact up HC.out b | exact (Below.refl _ _).drew.trans b | exact b); have HbA := Lib.hid b; have HRA := Lib.hid (Gn.Own.rd ndL ho); have DF := Lib.hid hd; obtain ⟨va, vc, rfl⟩ := rd_form HRA.out (Tp.flat F).length rfl; clear ho hd b)
      | (go_at_call 23; (with_reducible refine (CC.out _ (by first | exact HA.out | exact (Below.refl _ _).drew | exact (Below.refl _ _))).mono ?_); rintro e wC ⟨u, G, rfl, ho, hd, b⟩; have HC : Hid (Below wb.heap.size wb wC) := Lib.hid (by first | exact up HA.out b | exact (Below.refl _ _).drew.trans b | exact b); have HbC := Lib.hid b; have HRC := Lib.hid (Gn.Own.rd ndL ho); have DG := Lib.hid hd; obtain ⟨ua, uc, rfl⟩ := rd_form HRC.out (Tp.flat G).length rfl; clear ho hd b)))
  · skip
    have HZ := Lib.hid HC.out
    have HRF := Lib.hid (Gn.Rd.later HRA.out HbC.out)
    have HRG := Lib.hid (HRC.out)
    clear CA CC SK HA HC HbA HbC HRA HRC
    cases sm0
    · skip
      cases hsm : S8.sm F G
      · skip
        have HQ : Hid (S8.sm F G = false) := Lib.hid hsm
        have hqq : ((str (Jr.shv (Tp.sT F))).toList == (str (Jr.shv (Tp.sT G))).toList) = false := by rw [S8.sm_text DF.out DG.out]; exact hsm
        have HRD := Lib.hid DF.out.sorted.reads
        have hza : (str (Jr.shv (Tp.sT F))).size ≤ 43344 := by have := DF.out.sorted.short; rw [str_size]; omega
        have K1 := Lib.hid (canonC _ _ _ wC HRF.out DF.out.ok (HT.out.later HZ.out) (HTP.out.later HZ.out) (.inl ⟨F, DF.out.may, rfl⟩) DF.out.sorted.ok DF.out.sorted.tok _ 0 DF.out.sorted.sh)
        have K2 := Lib.hid (fun (wx : World) (hb : Below wC.heap.size wC wx) => canonC _ _ _ wx (Gn.Rd.later HRG.out hb) DG.out.ok (HT.out.later (up HZ.out hb)) (HTP.out.later (up HZ.out hb)) (.inl ⟨G, DG.out.may, rfl⟩) DG.out.sorted.ok DG.out.sorted.tok _ 0 DG.out.sorted.sh)
        clear hsm
        generalize str (Jr.shv (Tp.sT F)) = za at *
        generalize str (Jr.shv (Tp.sT G)) = zb at *
        have K3 := Lib.hid (fun (wx : World) (hb : Below wC.heap.size wC wx) => jparse (w := wx) za (HT.out.later (up HZ.out hb)) (HTE.out.later (up HZ.out hb)) (.inl (by omega)))
        have K4 := Lib.hid (fun (wx : World) (hb : Below wC.heap.size wC wx) => same _ _ _ _ wx (Gn.Rd.later HRF.out hb) (Gn.Rd.later HRG.out hb) DF.out.ok DG.out.ok (HT.out.later (up HZ.out hb)) _ _ (.inl ⟨F, DF.out.may, rfl⟩) (.inl ⟨G, DG.out.may, rfl⟩) false (by have h := S8.sm_same DF.out DG.out; rwa [HQ.out] at h))
        have K5 := Lib.hid (fun (x : Value) (wx : World) (hb : Below wC.heap.size wC wx) (hx : RdN wx wx.heap.size x (Tp.flat (Tp.sT F))) => same x _ _ _ wx hx (Gn.Rd.later HRF.out hb) DF.out.sorted.ok DF.out.ok (HT.out.later (up HZ.out hb)) (Tp.flat (Tp.sT F)) _ (.inl ⟨Tp.sT F, DF.out.sorted.may, by rw [DF.out.idem]⟩) (.inl ⟨F, DF.out.may, rfl⟩) true ⟨fun _ => ⟨DF.out.sorted.some, rfl⟩, fun _ => rfl⟩)
        have K6 := Lib.hid (fun (wx : World) (hb : Below wC.heap.size wC wx) => sorted _ _ wx (Gn.Rd.later HRF.out hb) DF.out.ok (HT.out.later (up HZ.out hb)) _ (.inl ⟨F, DF.out.may, rfl⟩))
        have K7 := Lib.hid (fun (x y : Value) (wx : World) (hx : RdN wx wx.heap.size x (Tp.flat (Tp.sT F))) (hy : RdN wx wx.heap.size y (Tp.flat (Tp.sT F))) => jlawEq8 x y _ _ wx hx hy (by have := DF.out.sorted.sz; rw [flat_sz]; omega) true ⟨fun _ => rfl, fun _ => rfl⟩)
        have K8 := Lib.hid (fun (wx : World) (hb : Below wC.heap.size wC wx) => CW.out wx (up HZ.out hb))
        clear CW HQ HRF HRG
        go_wp2_with fail
        ((with_reducible refine (K1.out).mono ?_); rintro e x1 ⟨rfl, b⟩)
        have X1 := Lib.hid b
        clear b K1
        go_wp2_with fail
        ((with_reducible refine (K2.out _ X1.out).mono ?_); rintro e x2 ⟨rfl, b⟩)
        have X2 := Lib.hid (up X1.out b)
        clear b K2
        go_wp2_with fail
        ((with_reducible refine (K3.out _ X2.out).mono ?_); rintro e x3 hp)
        obtain ⟨x, rfl, ho, b⟩ := parsed_only hp HRD.out
        have X3 := Lib.hid (up X2.out b)
        have HX := Lib.hid (Gn.Own.rd ndL ho)
        clear b hp ho K3
        go_wp2_with fail
        ((with_reducible refine (K4.out _ X3.out).mono ?_); rintro e x4 ⟨rfl, b⟩)
        have X4 := Lib.hid (up X3.out b)
        have HX4 := Lib.hid (Gn.Rd.later HX.out b)
        clear b K4 HX
        have C5 := Lib.hid (K5.out x _ X4.out HX4.out)
        go_wp2_with fail
        ((with_reducible refine (C5.out).mono ?_); rintro e x5 ⟨rfl, b⟩)
        have X5 := Lib.hid (up X4.out b)
        have HX5 := Lib.hid (Gn.Rd.later HX4.out b)
        clear b K5 C5 HX4
        go_wp2_with fail
        ((with_reducible refine (K6.out _ X5.out).mono ?_); rintro e x6 ⟨y, rfl, ho, b⟩)
        have X6 := Lib.hid (up X5.out b)
        have HX6 := Lib.hid (Gn.Rd.later HX5.out b)
        have HY6 := Lib.hid (Gn.Own.rd ndL ho)
        clear b ho K6 HX5
        have C7 := Lib.hid (K7.out x y x6 HX6.out HY6.out)
        go_wp2_with fail
        ((with_reducible refine (C7.out).mono ?_); rintro e x7 ⟨rfl, b⟩)
        have X7 := Lib.hid (up X6.out b)
        clear b K7 C7 HX6 HY6
        go_wp2_with fail
        ((with_reducible refine (K8.out _ X7.out).mono ?_); rintro e x8 ⟨rfl, b⟩)
        have X8 := Lib.hid (up X7.out b)
        clear b K8
        go_wp2_with fail
        go_ret
        exact ⟨rfl, up HBB.out (up HZ.out X8.out)⟩
      · skip
        have HQ : Hid (S8.sm F G = true) := Lib.hid hsm
        have hqq : ((str (Jr.shv (Tp.sT F))).toList == (str (Jr.shv (Tp.sT G))).toList) = true := by rw [S8.sm_text DF.out DG.out]; exact hsm
        have HRD := Lib.hid DF.out.sorted.reads
        have hza : (str (Jr.shv (Tp.sT F))).size ≤ 43344 := by have := DF.out.sorted.short; rw [str_size]; omega
        have K1 := Lib.hid (canonC _ _ _ wC HRF.out DF.out.ok (HT.out.later HZ.out) (HTP.out.later HZ.out) (.inl ⟨F, DF.out.may, rfl⟩) DF.out.sorted.ok DF.out.sorted.tok _ 0 DF.out.sorted.sh)
        have K2 := Lib.hid (fun (wx : World) (hb : Below wC.heap.size wC wx) => canonC _ _ _ wx (Gn.Rd.later HRG.out hb) DG.out.ok (HT.out.later (up HZ.out hb)) (HTP.out.later (up HZ.out hb)) (.inl ⟨G, DG.out.may, rfl⟩) DG.out.sorted.ok DG.out.sorted.tok _ 0 DG.out.sorted.sh)
        clear hsm
        generalize str (Jr.shv (Tp.sT F)) = za at *
        generalize str (Jr.shv (Tp.sT G)) = zb at *
        have K3 := Lib.hid (fun (wx : World) (hb : Below wC.heap.size wC wx) => jparse (w := wx) za (HT.out.later (up HZ.out hb)) (HTE.out.later (up HZ.out hb)) (.inl (by omega)))
        have K4 := Lib.hid (fun (wx : World) (hb : Below wC.heap.size wC wx) => same _ _ _ _ wx (Gn.Rd.later HRF.out hb) (Gn.Rd.later HRG.out hb) DF.out.ok DG.out.ok (HT.out.later (up HZ.out hb)) _ _ (.inl ⟨F, DF.out.may, rfl⟩) (.inl ⟨G, DG.out.may, rfl⟩) true (by have h := S8.sm_same DF.out DG.out; rwa [HQ.out] at h))
        have K5 := Lib.hid (fun (x : Value) (wx : World) (hb : Below wC.heap.size wC wx) (hx : RdN wx wx.heap.size x (Tp.flat (Tp.sT F))) => same x _ _ _ wx hx (Gn.Rd.later HRF.out hb) DF.out.sorted.ok DF.out.ok (HT.out.later (up HZ.out hb)) (Tp.flat (Tp.sT F)) _ (.inl ⟨Tp.sT F, DF.out.sorted.may, by rw [DF.out.idem]⟩) (.inl ⟨F, DF.out.may, rfl⟩) true ⟨fun _ => ⟨DF.out.sorted.some, rfl⟩, fun _ => rfl⟩)
        have K6 := Lib.hid (fun (wx : World) (hb : Below wC.heap.size wC wx) => sorted _ _ wx (Gn.Rd.later HRF.out hb) DF.out.ok (HT.out.later (up HZ.out hb)) _ (.inl ⟨F, DF.out.may, rfl⟩))
        have K7 := Lib.hid (fun (x y : Value) (wx : World) (hx : RdN wx wx.heap.size x (Tp.flat (Tp.sT F))) (hy : RdN wx wx.heap.size y (Tp.flat (Tp.sT F))) => jlawEq8 x y _ _ wx hx hy (by have := DF.out.sorted.sz; rw [flat_sz]; omega) true ⟨fun _ => rfl, fun _ => rfl⟩)
        have K8 := Lib.hid (fun (wx : World) (hb : Below wC.heap.size wC wx) => CW.out wx (up HZ.out hb))
        clear CW HQ HRF HRG
        go_wp2_with fail
        ((with_reducible refine (K1.out).mono ?_); rintro e x1 ⟨rfl, b⟩)
        have X1 := Lib.hid b
        clear b K1
        go_wp2_with fail
        ((with_reducible refine (K2.out _ X1.out).mono ?_); rintro e x2 ⟨rfl, b⟩)
        have X2 := Lib.hid (up X1.out b)
        clear b K2
        go_wp2_with fail
        ((with_reducible refine (K3.out _ X2.out).mono ?_); rintro e x3 hp)
        obtain ⟨x, rfl, ho, b⟩ := parsed_only hp HRD.out
        have X3 := Lib.hid (up X2.out b)
        have HX := Lib.hid (Gn.Own.rd ndL ho)
        clear b hp ho K3
        go_wp2_with fail
        ((with_reducible refine (K4.out _ X3.out).mono ?_); rintro e x4 ⟨rfl, b⟩)
        have X4 := Lib.hid (up X3.out b)
        have HX4 := Lib.hid (Gn.Rd.later HX.out b)
        clear b K4 HX
        have C5 := Lib.hid (K5.out x _ X4.out HX4.out)
        go_wp2_with fail
        ((with_reducible refine (C5.out).mono ?_); rintro e x5 ⟨rfl, b⟩)
        have X5 := Lib.hid (up X4.out b)
        have HX5 := Lib.hid (Gn.Rd.later HX4.out b)
        clear b K5 C5 HX4
        go_wp2_with fail
        ((with_reducible refine (K6.out _ X5.out).mono ?_); rintro e x6 ⟨y, rfl, ho, b⟩)
        have X6 := Lib.hid (up X5.out b)
        have HX6 := Lib.hid (Gn.Rd.later HX5.out b)
        have HY6 := Lib.hid (Gn.Own.rd ndL ho)
        clear b ho K6 HX5
        have C7 := Lib.hid (K7.out x y x6 HX6.out HY6.out)
        go_wp2_with fail
        ((with_reducible refine (C7.out).mono ?_); rintro e x7 ⟨rfl, b⟩)
        have X7 := Lib.hid (up X6.out b)
        clear b K7 C7 HX6 HY6
        go_wp2_with fail
        ((with_reducible refine (K8.out _ X7.out).mono ?_); rintro e x8 ⟨rfl, b⟩)
        have X8 := Lib.hid (up X7.out b)
        clear b K8
        go_wp2_with fail
        go_ret
        exact ⟨rfl, up HBB.out (up HZ.out X8.out)⟩
    · skip
      have KS := Lib.hid (sorted _ _ wC HRF.out DF.out.ok (HT.out.later HZ.out) _ (.inl ⟨F, DF.out.may, rfl⟩))
      clear HRG DG
      go_wp2_with fail
      ((with_reducible refine (KS.out).mono ?_); rintro e wS ⟨z, rfl, ho, b⟩)
      obtain ⟨G', hG⟩ : ∃ G', G' = Tp.sT F := ⟨_, rfl⟩
      have DG : Hid (S8.DOk G') := Lib.hid (by rw [hG]; exact DF.out.sorted)
      have HRG : Hid (RdN wS wS.heap.size z (Tp.flat G')) := Lib.hid (by rw [hG]; exact Gn.Own.rd ndL ho)
      obtain ⟨za', zc', rfl⟩ := rd_form HRG.out (Tp.flat G').length rfl
      replace HRF := Lib.hid (Gn.Rd.later HRF.out b)
      replace HZ := Lib.hid (up HZ.out b)
      have hsm : S8.sm F G' = true := (S8.sm_iff F G').2 (by rw [hG, DF.out.idem])
      clear ho b KS hG
      have HQ : Hid (S8.sm F G' = true) := Lib.hid hsm
      have hqq : ((str (Jr.shv (Tp.sT F))).toList == (str (Jr.shv (Tp.sT G'))).toList) = true := by rw [S8.sm_text DF.out DG.out]; exact hsm
      have HRD := Lib.hid DF.out.sorted.reads
      have hza : (str (Jr.shv (Tp.sT F))).size ≤ 43344 := by have := DF.out.sorted.short; rw [str_size]; omega
      have K1 := Lib.hid (canonC _ _ _ wS HRF.out DF.out.ok (HT.out.later HZ.out) (HTP.out.later HZ.out) (.inl ⟨F, DF.out.may, rfl⟩) DF.out.sorted.ok DF.out.sorted.tok _ 0 DF.out.sorted.sh)
      have K2 := Lib.hid (fun (wx : World) (hb : Below wS.heap.size wS wx) => canonC _ _ _ wx (Gn.Rd.later HRG.out hb) DG.out.ok (HT.out.later (up HZ.out hb)) (HTP.out.later (up HZ.out hb)) (.inl ⟨G', DG.out.may, rfl⟩) DG.out.sorted.ok DG.out.sorted.tok _ 0 DG.out.sorted.sh)
      clear hsm
      generalize str (Jr.shv (Tp.sT F)) = za at *
      generalize str (Jr.shv (Tp.sT G')) = zb at *
      have K3 := Lib.hid (fun (wx : World) (hb : Below wS.heap.size wS wx) => jparse (w := wx) za (HT.out.later (up HZ.out hb)) (HTE.out.later (up HZ.out hb)) (.inl (by omega)))
      have K4 := Lib.hid (fun (wx : World) (hb : Below wS.heap.size wS wx) => same _ _ _ _ wx (Gn.Rd.later HRF.out hb) (Gn.Rd.later HRG.out hb) DF.out.ok DG.out.ok (HT.out.later (up HZ.out hb)) _ _ (.inl ⟨F, DF.out.may, rfl⟩) (.inl ⟨G', DG.out.may, rfl⟩) true (by have h := S8.sm_same DF.out DG.out; rwa [HQ.out] at h))
      have K5 := Lib.hid (fun (x : Value) (wx : World) (hb : Below wS.heap.size wS wx) (hx : RdN wx wx.heap.size x (Tp.flat (Tp.sT F))) => same x _ _ _ wx hx (Gn.Rd.later HRF.out hb) DF.out.sorted.ok DF.out.ok (HT.out.later (up HZ.out hb)) (Tp.flat (Tp.sT F)) _ (.inl ⟨Tp.sT F, DF.out.sorted.may, by rw [DF.out.idem]⟩) (.inl ⟨F, DF.out.may, rfl⟩) true ⟨fun _ => ⟨DF.out.sorted.some, rfl⟩, fun _ => rfl⟩)
      have K6 := Lib.hid (fun (wx : World) (hb : Below wS.heap.size wS wx) => sorted _ _ wx (Gn.Rd.later HRF.out hb) DF.out.ok (HT.out.later (up HZ.out hb)) _ (.inl ⟨F, DF.out.may, rfl⟩))
      have K7 := Lib.hid (fun (x y : Value) (wx : World) (hx : RdN wx wx.heap.size x (Tp.flat (Tp.sT F))) (hy : RdN wx wx.heap.size y (Tp.flat (Tp.sT F))) => jlawEq8 x y _ _ wx hx hy (by have := DF.out.sorted.sz; rw [flat_sz]; omega) true ⟨fun _ => rfl, fun _ => rfl⟩)
      have K8 := Lib.hid (fun (wx : World) (hb : Below wS.heap.size wS wx) => CW.out wx (up HZ.out hb))
      clear CW HQ HRF HRG
      go_wp2_with fail
      ((with_reducible refine (K1.out).mono ?_); rintro e x1 ⟨rfl, b⟩)
      have X1 := Lib.hid b
      clear b K1
      go_wp2_with fail
      ((with_reducible refine (K2.out _ X1.out).mono ?_); rintro e x2 ⟨rfl, b⟩)
      have X2 := Lib.hid (up X1.out b)
      clear b K2
      go_wp2_with fail
      ((with_reducible refine (K3.out _ X2.out).mono ?_); rintro e x3 hp)
      obtain ⟨x, rfl, ho, b⟩ := parsed_only hp HRD.out
      have X3 := Lib.hid (up X2.out b)
      have HX := Lib.hid (Gn.Own.rd ndL ho)
      clear b hp ho K3
      go_wp2_with fail
      ((with_reducible refine (K4.out _ X3.out).mono ?_); rintro e x4 ⟨rfl, b⟩)
      have X4 := Lib.hid (up X3.out b)
      have HX4 := Lib.hid (Gn.Rd.later HX.out b)
      clear b K4 HX
      have C5 := Lib.hid (K5.out x _ X4.out HX4.out)
      go_wp2_with fail
      ((with_reducible refine (C5.out).mono ?_); rintro e x5 ⟨rfl, b⟩)
      have X5 := Lib.hid (up X4.out b)
      have HX5 := Lib.hid (Gn.Rd.later HX4.out b)
      clear b K5 C5 HX4
      go_wp2_with fail
      ((with_reducible refine (K6.out _ X5.out).mono ?_); rintro e x6 ⟨y, rfl, ho, b⟩)
      have X6 := Lib.hid (up X5.out b)
      have HX6 := Lib.hid (Gn.Rd.later HX5.out b)
      have HY6 := Lib.hid (Gn.Own.rd ndL ho)
      clear b ho K6 HX5
      have C7 := Lib.hid (K7.out x y x6 HX6.out HY6.out)
      go_wp2_with fail
      ((with_reducible refine (C7.out).mono ?_); rintro e x7 ⟨rfl, b⟩)
      have X7 := Lib.hid (up X6.out b)
      clear b K7 C7 HX6 HY6
      go_wp2_with fail
      ((with_reducible refine (K8.out _ X7.out).mono ?_); rintro e x8 ⟨rfl, b⟩)
      have X8 := Lib.hid (up X7.out b)
      clear b K8
      go_wp2_with fail
      go_ret
      exact ⟨rfl, up HBB.out (up HZ.out X8.out)⟩
end Go.Proofs.YtgmdjofnkbaflaaGreatDoor
