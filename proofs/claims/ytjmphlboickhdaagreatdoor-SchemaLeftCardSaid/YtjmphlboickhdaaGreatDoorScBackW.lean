/- The walk of SchemaBack: a schema that may be is read of its text as it was. -/
import Derived.Test.YtjmphlboickhdaaGreatDoorScc
import Derived.Test.YtjmphlboickhdaaGreatDoorScb
namespace Go.Proofs.YtjmphlboickhdaaGreatDoor
open Go.RowKit
set_option linter.unusedVariables false
set_option linter.unusedSimpArgs false
set_option maxRecDepth 100000

/-- A made schema in a variable. -/
structure SV (w : World) (g : Nat) (cv kv : Value) (cs : List Co) (ks : List Int) : Prop where
  x : Blk w g 25 [cv, kv]
  c : RdK w w.heap.size cv cs
  k : RdI w w.heap.size kv ks
theorem SV.later {w w' : World} {g : Nat} {cv kv : Value} {cs : List Co} {ks : List Int} (h : SV w g cv kv cs ks) (hb : Below w.heap.size w w') : SV w' g cv kv cs ks := ⟨h.x.later hb, h.c.later hb, h.k.later hb⟩
theorem SV.new {w : World} {B : Nat} {cv kv : Value} {cs : List Co} {ks : List Int} (ho : OwnK w B cv cs) (hi : OwnI w B kv ks) : SV (w.alloc (.cells #[cv, kv] 25)) w.heap.size cv kv cs ks :=
  ⟨Blk.new w 25 #[cv, kv], (RdK.of ho).later (box_new _ _), (RdI.of hi).later (box_new _ _)⟩
theorem SV.lie {w : World} {g : Nat} {cv kv : Value} {cs : List Co} {ks : List Int} (h : SV w g cv kv cs ks) : w.cell? ⟨g, 0, none⟩ = some cv ∧ w.cell? ⟨g, 1, none⟩ = some kv := ⟨h.x.cell 0, h.x.cell 1⟩
set_option maxHeartbeats 8000000 in
theorem schemaBack (sv : Value) (L : List S5) (K : Int) (w : World) (hI : SeedIn w sv L K) (T : TA w) : Calls Tryz.prog 5 #[.agg #[sv, .int .i64 K]] w fun e w' => e = .returned (.bool true) ∧ Below w.heap.size w w' := by
  have HT := Lib.hid T
  have HI := Lib.hid hI
  have b0 := box_new w (.cells #[sv, .int .i64 K] 49)
  have HB0 := Lib.hid b0
  have HX := Lib.hid (Blk.new w 49 #[sv, .int .i64 K])
  have HR := Lib.hid (hI.rd.later b0)
  clear T hI b0
  go_enter Tryz.func5, Tryz.ntmps5
  go_wp2_with fail
  generalize hg0 : w.heap.size = g0 at *
  generalize w.alloc (.cells #[sv, .int .i64 K] 49) = w0 at *
  ((with_reducible refine (works w0 (HT.out.later (by rw [hg0]; exact HB0.out))).mono ?_); rintro x w1 ⟨rfl, b1⟩)
  subst hg0
  have HB1 := Lib.hid (up HB0.out b1)
  have HR1 := Lib.hid (HR.out.later b1)
  have x0 := (HX.out.later b1).cell 0
  have x1 := (HX.out.later b1).cell 1
  simp only [List.getElem?_cons_succ, List.getElem?_cons_zero] at x0 x1
  clear b1 HR HX
  go_wp2_with fail
  ((with_reducible refine (lMade sv L K w1 HR1.out HI.out.in_ HI.out.k).mono ?_); rintro x w2 ⟨cv, kv, cs, ks, rfl, hm, ho, hi, b2⟩)
  have HM := Lib.hid hm
  have HV := Lib.hid (SV.new ho hi)
  have HB2 := Lib.hid (up (up HB1.out b2) (box_new w2 (.cells #[cv, kv] 25)))
  obtain ⟨tx, htx⟩ : ∃ tx, str (Sc.text cs ks) = tx := ⟨_, rfl⟩
  have hmt := hm.text
  rw [htx] at hmt
  have HMT := Lib.hid hmt
  have CT := Lib.hid (fun w1 (T1 : TA w1) (g1 : RdK w1 w1.heap.size cv cs) (g2 : RdI w1 w1.heap.size kv ks) => cTextS cv kv cs ks w1 T1 g1 g2 hm.ko hm.ki 0 hm.ck tx (by rw [if_pos rfl]; exact htx))
  have CK := Lib.hid (fun w1 (T1 : TA w1) (g1 : RdK w1 w1.heap.size cv cs) (g2 : RdI w1 w1.heap.size kv ks) => cCheckS cv kv cs ks w1 T1 g1 g2 hm.ko hm.ki 0 hm.ck)
  have CP := Lib.hid (fun w1 (T1 : TA w1) => cParse tx (by have := hmt.s; omega) w1 T1 _ hmt.p)
  clear HR1 x0 x1 b2 hmt htx HB1 HI
  obtain ⟨ca, cc, rfl, _⟩ := Gn.Rd.form (RdK.of ho)
  obtain ⟨ka, kc, rfl, _⟩ := Gn.Rd.form (RdI.of hi)
  clear ho hi
  go_wp2_with fail
  generalize hg : w2.heap.size = g at *
  generalize hw3 : w2.alloc (.cells #[.slice ca cs.length cc, .slice ka ks.length kc] 25) = w3 at *
  obtain ⟨x0, x1⟩ := HV.out.lie
  go_wp2_with fail
  try rw [hg]
  try rw [hw3]
  clear hg hw3
  ((with_reducible refine (CT.out w3 (HT.out.later HB2.out) HV.out.c HV.out.k).mono ?_); rintro x w4 ⟨rfl, b4⟩)
  have HB4 := Lib.hid (up HB2.out b4)
  have HV4 := Lib.hid (HV.out.later b4)
  clear x0 x1 b4 HV CT HB2
  go_wp2_with fail
  ((with_reducible refine (CP.out w4 (HT.out.later HB4.out)).mono ?_); rintro x w5 ⟨rv, rk, rfl, po, pi, b5⟩)
  simp only at po pi ⊢
  have HR5 := Lib.hid (SV.new po pi)
  have HB5 := Lib.hid (up (up HB4.out b5) (box_new w5 (.cells #[rv, rk] 25)))
  have HV5 := Lib.hid (HV4.out.later (up b5 (box_new w5 (.cells #[rv, rk] 25))))
  obtain ⟨ra, rc, rfl, _⟩ := Gn.Rd.form (RdK.of po)
  obtain ⟨qa, qc, rfl, _⟩ := Gn.Rd.form (RdI.of pi)
  clear b5 po pi HV4 HB4 CP hm
  go_upto_region 6 with fail
  generalize hgr : w5.heap.size = gr at *
  generalize w5.alloc (.cells #[.slice ra cs.length rc, .slice qa ks.length qc] 25) = w6 at *
  obtain ⟨x0, x1⟩ := HV5.out.lie
  obtain ⟨y0, y1⟩ := HR5.out.lie
  have SK := Lib.hid (fun (wS : World) (hb : Below w6.heap.size w6 wS) => And.intro hb (And.intro ((hb.cell (p := ⟨g, 0, none⟩) (cell_lt x0)).trans x0) (And.intro ((hb.cell (p := ⟨g, 1, none⟩) (cell_lt x1)).trans x1) (And.intro ((hb.cell (p := ⟨gr, 0, none⟩) (cell_lt y0)).trans y0) ((hb.cell (p := ⟨gr, 1, none⟩) (cell_lt y1)).trans y1)))))
  have CS := Lib.hid (fun (wS : World) (hb : Below w6.heap.size w6 wS) => rSame (.slice ca cs.length cc) (.slice ra cs.length rc) (.slice ka ks.length kc) (.slice qa ks.length qc) cs cs ks ks wS (HV5.out.c.later hb) (HR5.out.c.later hb) (HV5.out.k.later hb) (HR5.out.k.later hb) true (by simp))
  have hcnt : (((bl tx).count 10 : Nat) : Int) = (cs.length : Nat) := by rw [HMT.out.n]
  have hge : (cs.length : Int) ≤ (cs.length : Nat) := Int.le_refl _
  have CN := Lib.hid (fun wS => cCount tx wS)
  rw [hcnt] at CN
  clear x0 x1 y0 y1 HM HMT hcnt
  go_region_held3 (fun wS => Below w6.heap.size w6 wS ∧ (wS.cell? ⟨g, 0, none⟩ = some (.slice ca cs.length cc) ∧ (wS.cell? ⟨g, 1, none⟩ = some (.slice ka ks.length kc) ∧ (wS.cell? ⟨gr, 0, none⟩ = some (.slice ra cs.length rc) ∧ wS.cell? ⟨gr, 1, none⟩ = some (.slice qa ks.length qc)))))
    (first | exact SK.out _ HE2.out | exact SK.out _ HE1.out | exact SK.out _ (Below.refl _ _).drew | exact SK.out _ (Below.refl _ _) | fail "keep")
    ((first
      | (go_at_call 28; (with_reducible refine (CN.out _).mono ?_); rintro e c3 ⟨rfl, rfl⟩)
      | (go_at_call 17; (with_reducible refine (CS.out _ HE1.out).mono ?_); rintro e c2 ⟨rfl, h⟩
         have HE2 := Lib.hid (up HE1.out h)
         clear h)
      | (go_at_call 14; (with_reducible refine (CK.out w6.drew (HT.out.later (up HB5.out (Below.refl _ _).drew)) (HV5.out.c.later (Below.refl _ _).drew) (HV5.out.k.later (Below.refl _ _).drew)).mono ?_); rintro e c1 ⟨rfl, h⟩
         have HE1 := Lib.hid (up (Below.refl w6.heap.size w6).drew h)
         clear h)
    ))
  go_wp2_with fail
  go_ret
  exact ⟨rfl, up HB5.out HE2.out⟩
end Go.Proofs.YtjmphlboickhdaaGreatDoor
