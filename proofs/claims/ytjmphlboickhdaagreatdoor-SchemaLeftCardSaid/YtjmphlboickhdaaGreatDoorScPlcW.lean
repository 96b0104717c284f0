/- The walk of SchemaPlaces: each column is found where it stands, no other one is. -/
import Derived.Test.YtjmphlboickhdaaGreatDoorScc
import Derived.Test.YtjmphlboickhdaaGreatDoorScb
import Derived.Test.YtjmphlboickhdaaGreatDoorScBackW
namespace Go.Proofs.YtjmphlboickhdaaGreatDoor
open Go.RowKit
set_option linter.unusedVariables false
set_option linter.unusedSimpArgs false
set_option maxRecDepth 100000

theorem Sc.find_snd (p : Co → Bool) : ∀ l : List Co, (Sc.find p l).2 = l.any p
  | [] => rfl
  | c :: t => by
    unfold Sc.find
    rw [List.any_cons]
    by_cases h : p c = true
    · rw [if_pos h, h]; rfl
    · rw [if_neg h, Bool.not_eq_true] at *
      rw [h, Bool.false_or, ← Sc.find_snd p t]
      split
      · next h2 => rw [h2]
      · next h2 => simpa using h2
/-- In a schema that may be, ids rise and names are others. -/
theorem Sc.id_lt {cs : List Co} (h : Sc.okC cs = true) : ∀ (i j : Nat) (c d : Co), i < j → cs[i]? = some c → cs[j]? = some d → c.id < d.id := by
  intro i j
  induction j with
  | zero => intro c d hij; omega
  | succ j ih =>
    intro c d hij hc hd
    have hjl := (List.getElem?_eq_some_iff.1 hd).1
    have h1 := (Sc.okAt_parts.1 ((Sc.okC_iff.1 h).2 (j + 1) d hd)).1.1
    obtain ⟨z, hz⟩ : ∃ z, cs[j]? = some z := ⟨_, List.getElem?_eq_getElem (by omega)⟩
    unfold Sc.least at h1
    rw [if_neg (by omega), Nat.add_sub_cancel, Sc.getD_of hz] at h1
    rcases Nat.lt_or_ge i j with hij2 | hij2
    · have := ih c z hij2 hc hz; omega
    · obtain rfl : i = j := by omega
      rw [hc] at hz; injection hz with hz; subst hz; omega
theorem Sc.nm_ne {cs : List Co} (h : Sc.okC cs = true) (i j : Nat) (c d : Co) (hij : i < j) (hc : cs[i]? = some c) (hd : cs[j]? = some d) : bl c.nm ≠ bl d.nm := by
  have h1 := (Sc.okAt_parts.1 ((Sc.okC_iff.1 h).2 j d hd)).2.2.2
  unfold Sc.fresh at h1
  rw [List.all_eq_true] at h1
  have hm : c ∈ cs.take j := List.mem_of_getElem? (i := i) (by rw [List.getElem?_take_of_lt hij]; exact hc)
  have := h1 c hm
  simpa using this
theorem Sc.find_id {cs : List Co} (h : Sc.okC cs = true) {i : Nat} {c : Co} (hc : cs[i]? = some c) : Sc.find (Sc.byId c.id) cs = (i, true) :=
  Sc.find_hit hc (by unfold Sc.byId; simp) (fun j d hj hd => by
    have := Sc.id_lt h j i d c hj hd hc
    unfold Sc.byId; simp; omega)
theorem Sc.find_nm {cs : List Co} (h : Sc.okC cs = true) {i : Nat} {c : Co} (hc : cs[i]? = some c) : Sc.find (Sc.byName c.nm) cs = (i, true) :=
  Sc.find_hit hc (by unfold Sc.byName; simp) (fun j d hj hd => by
    have := Sc.nm_ne h j i d c hj hd hc
    unfold Sc.byName; simpa using this)
theorem any_take {α : Type} (p : α → Bool) (l : List α) (k : Nat) (x : α) (h : l[k]? = some x) : (l.take (k + 1)).any p = ((l.take k).any p || p x) := by
  rw [List.take_add_one, h]
  simp
theorem eq_bl (x y : ByteArray) : (x.toList == y.toList) = decide (bl x = bl y) := by
  by_cases h : bl x = bl y
  · have := bl_inj h
    subst this; simp
  · have h2 : x ≠ y := fun e => h (by rw [e])
    have h3 : x.toList ≠ y.toList := fun e => h2 (by
      have h4 : x.data.toList = y.data.toList := by rw [← ByteArray.toList_eq, ← ByteArray.toList_eq]; exact e
      cases x; cases y
      simp at h4
      rw [h4])
    simp [h, h3]
set_option maxHeartbeats 8000000 in
theorem schemaPlaces (sv : Value) (L : List S5) (K : Int) (id : Int) (nm : ByteArray) (w : World) (hI : SeedIn w sv L K) (T : TA w) : Calls Tryz.prog 7 #[.agg #[sv, .int .i64 K], .int .i64 id, .string nm] w fun e w' => e = .returned (.bool true) ∧ Below w.heap.size w w' := by
  have HT := Lib.hid T
  have HI := Lib.hid hI
  have b0 := box_new w (.cells #[sv, .int .i64 K] 49)
  have HB0 := Lib.hid b0
  have HX := Lib.hid (Blk.new w 49 #[sv, .int .i64 K])
  have HR := Lib.hid (hI.rd.later b0)
  have x0 := HX.out.cell 0
  have x1 := HX.out.cell 1
  simp only [List.getElem?_cons_succ, List.getElem?_cons_zero] at x0 x1
  clear T hI b0
  go_enter Tryz.func7, Tryz.ntmps7
  go_upto_region 1 with fail
  generalize hg0 : w.heap.size = g0 at *
  generalize hw0 : w.alloc (.cells #[sv, .int .i64 K] 49) = w0 at *
  go_wp2_with fail
  subst hg0
  ((with_reducible refine (lMade sv L K w0 HR.out HI.out.in_ HI.out.k).mono ?_); rintro x w2 ⟨cv, kv, cs, ks, rfl, hm, ho, hi, b2⟩)
  have HM := Lib.hid hm
  have HV := Lib.hid (SV.new ho hi)
  have HB2 := Lib.hid (up (up HB0.out b2) (box_new w2 (.cells #[cv, kv] 25)))
  clear x0 x1 b2 HB0 HI HR HX hw0
  obtain ⟨ca, cc, rfl, _⟩ := Gn.Rd.form (RdK.of ho)
  obtain ⟨ka, kc, rfl, _⟩ := Gn.Rd.form (RdI.of hi)
  clear ho hi
  go_wp2_with fail
  generalize hg : w2.heap.size = g at *
  generalize w2.alloc (.cells #[.slice ca cs.length cc, .slice ka ks.length kc] 25) = w3 at *
  clear hg
  go_loopw [8, 9, 10] (fun ids names i wr => ∃ (k : Nat) (p q : Bool), k ≤ cs.length ∧ i = .int .i64 (k : Nat) ∧ ids = .bool p ∧ names = .bool q ∧ Hid ((cs.take k).any (Sc.byId id) = p) ∧ Hid ((cs.take k).any (Sc.byName nm) = q) ∧ Hid (Below w3.heap.size w3 wr)) (fun _ _ i _ => cs.length - (intOf i).toNat)
  case atStart => exact ⟨0, false, false, by omega, by rfl, by rfl, by rfl, Lib.hid rfl, Lib.hid rfl, Lib.hid (Below.refl _ _)⟩
  case round =>
    obtain ⟨k, p, q, hk, rfl, rfl, rfl, HP, HQ, HU⟩ := hrel
    have HVR := Lib.hid (HV.out.later HU.out)
    obtain ⟨s0, s1⟩ := HVR.out.lie
    by_cases hlt : k < cs.length
    · have hlt1 : (k : Int) < cs.length := by omega
      obtain ⟨c, hx⟩ : ∃ c, cs[k]? = some c := ⟨_, List.getElem?_eq_getElem hlt⟩
      obtain ⟨gb, off, rfl, p0, p1, p2, p3, p4, p5, p6⟩ := rdK_cells HVR.out.c (Below.refl _ _) hx
      have HFI := Lib.hid (Sc.find_id HM.out.ok hx)
      have HFN := Lib.hid (Sc.find_nm HM.out.ok hx)
      have hcol := HM.out.cols c (List.mem_of_getElem? hx)
      have hns := HM.out.ns c (List.mem_of_getElem? hx)
      have HIN := Lib.hid (fun w => cIsName c.nm w (by omega) true hcol.nm)
      have HA1 := Lib.hid (any_take (Sc.byId id) cs k c hx)
      have HA2 := Lib.hid (any_take (Sc.byName nm) cs k c hx)
      rw [HP.out] at HA1
      rw [HQ.out] at HA2
      have hl6 : cs.length ≤ 1000000 := by have := HM.out.l16; omega
      have C1 := Lib.hid (fun w1 (hv : SV w1 g (.slice (some ⟨gb, off, none⟩) cs.length cc) (.slice ka ks.length kc) cs ks) => cPlace _ (.slice ka ks.length kc) cs c.id w1 hv.c hl6 k true HFI.out)
      have C2 := Lib.hid (fun w1 (hv : SV w1 g (.slice (some ⟨gb, off, none⟩) cs.length cc) (.slice ka ks.length kc) cs ks) => cNamed _ (.slice ka ks.length kc) cs c.nm w1 hv.c hl6 k true HFN.out)
      unfold Sc.byId at HA1
      unfold Sc.byName at HA2
      obtain ⟨ci, cm, ck, cu, ⟨du, dn, ds⟩⟩ := c
      simp only at p0 p1 p2 p3 p4 p5 p6 C1 C2 HA1 HA2 HIN
      rw [← eq_bl] at HA2
      clear hx hcol hns HFI HFN HP HQ hl6
      have HLT := Lib.hid hlt
      have hk6 : (k : Int) < 1000000 := by have := HM.out.l16; omega
      have SK := Lib.hid (fun (wS : World) (hb : Below wr.heap.size wr wS) => And.intro hb (And.intro ((hb.cell (p := ⟨g, 0, none⟩) (cell_lt s0)).trans s0) (And.intro ((hb.cell (p := ⟨g, 1, none⟩) (cell_lt s1)).trans s1) ((hb.cell (p := ⟨gb, off + k * 7, none⟩) (cell_lt p0)).trans p0))))
      clear p2 p3 p4 p5 p6
      go_upto_region 6 with fail
      go_region_held3 (fun wS => Below wr.heap.size wr wS ∧ (wS.cell? ⟨g, 0, none⟩ = some (.slice (some ⟨gb, off, none⟩) cs.length cc) ∧ (wS.cell? ⟨g, 1, none⟩ = some (.slice ka ks.length kc) ∧ wS.cell? ⟨gb, off + k * 7, none⟩ = some (.int .i64 ci))))
        (first | exact SK.out _ HE1.out | exact SK.out _ (Below.refl _ _).drew | exact SK.out _ (Below.refl _ _) | fail "keep")
        ((go_at_call 18; (with_reducible refine (C1.out wr.drew (HVR.out.later (Below.refl _ _).drew)).mono ?_); rintro e w4 ⟨rfl, b⟩
          have HE1 := Lib.hid (up (Below.refl wr.heap.size wr).drew b)
          clear b))
      have HV4 := Lib.hid (HVR.out.later HE1.out)
      have HU4 := Lib.hid (up HU.out HE1.out)
      have p0 := (HE1.out.cell (p := ⟨gb, off + k * 7, none⟩) (cell_lt p0)).trans p0
      have p1 := (HE1.out.cell (p := ⟨gb, off + k * 7 + 1, none⟩) (cell_lt p1)).trans p1
      have s0 := (HE1.out.cell (p := ⟨g, 0, none⟩) (cell_lt s0)).trans s0
      have s1 := (HE1.out.cell (p := ⟨g, 1, none⟩) (cell_lt s1)).trans s1
      have SL := Lib.hid (fun (wS : World) (hb : Below w4.heap.size w4 wS) => And.intro hb (And.intro ((hb.cell (p := ⟨g, 0, none⟩) (cell_lt s0)).trans s0) (And.intro ((hb.cell (p := ⟨g, 1, none⟩) (cell_lt s1)).trans s1) ((hb.cell (p := ⟨gb, off + k * 7 + 1, none⟩) (cell_lt p1)).trans p1))))
      clear C1 SK HE1
      go_upto_region 7 with fail
      go_region_held3 (fun wS => Below w4.heap.size w4 wS ∧ (wS.cell? ⟨g, 0, none⟩ = some (.slice (some ⟨gb, off, none⟩) cs.length cc) ∧ (wS.cell? ⟨g, 1, none⟩ = some (.slice ka ks.length kc) ∧ wS.cell? ⟨gb, off + k * 7 + 1, none⟩ = some (.string cm))))
        (first | exact SL.out _ HE2.out | exact SL.out _ (Below.refl _ _).drew | exact SL.out _ (Below.refl _ _) | fail "keep")
        ((go_at_call 20; (with_reducible refine (C2.out w4.drew (HV4.out.later (Below.refl _ _).drew)).mono ?_); rintro e w5 ⟨rfl, b⟩
          have HE2 := Lib.hid (up (Below.refl w4.heap.size w4).drew b)
          clear b))
      have HV5 := Lib.hid (HV4.out.later HE2.out)
      have HU5 := Lib.hid (up HU4.out HE2.out)
      have p0 := (HE2.out.cell (p := ⟨gb, off + k * 7, none⟩) (cell_lt p0)).trans p0
      have p1 := (HE2.out.cell (p := ⟨gb, off + k * 7 + 1, none⟩) (cell_lt p1)).trans p1
      have s0 := (HE2.out.cell (p := ⟨g, 0, none⟩) (cell_lt s0)).trans s0
      have s1 := (HE2.out.cell (p := ⟨g, 1, none⟩) (cell_lt s1)).trans s1
      clear C2 HV4 HU4 SL HE2
      go_wp2_with fail
      ((with_reducible refine (HIN.out _).mono ?_); rintro e w6 ⟨rfl, rfl⟩)
      cases p <;> cases q
      all_goals
        go_wp2_with fail
        go_roundw
        case rel => exact ⟨k + 1, _, _, HLT.out, by go_num, rfl, rfl, HA1, HA2, HU5⟩
        case measure => have := HLT.out; simp [intOf]; omega
    · have hlt1 : ¬ (k : Int) < cs.length := by omega
      obtain rfl : k = cs.length := by omega
      rw [List.take_length] at HP HQ
      have hl6 : cs.length ≤ 1000000 := by have := HM.out.l16; omega
      have C1 := Lib.hid (cPlace (.slice ca cs.length cc) (.slice ka ks.length kc) cs id wr HVR.out.c hl6 _ p (show Sc.find (Sc.byId id) cs = ((Sc.find (Sc.byId id) cs).1, p) from Prod.ext rfl ((Sc.find_snd _ _).trans HP.out)))
      have C2 := Lib.hid (fun w1 (hv : SV w1 g (.slice ca cs.length cc) (.slice ka ks.length kc) cs ks) => cNamed (.slice ca cs.length cc) (.slice ka ks.length kc) cs nm w1 hv.c hl6 _ q (show Sc.find (Sc.byName nm) cs = ((Sc.find (Sc.byName nm) cs).1, q) from Prod.ext rfl ((Sc.find_snd _ _).trans HQ.out)))
      generalize (Sc.find (Sc.byId id) cs).1 = n1 at *
      generalize (Sc.find (Sc.byName nm) cs).1 = n2 at *
      have ep : (p == p) = true := by simp
      have eq : (q == q) = true := by simp
      clear HP HQ hl6
      go_wp2_with fail
      ((with_reducible refine C1.out.mono ?_); rintro e w4 ⟨rfl, b⟩)
      have HV4 := Lib.hid (HVR.out.later b)
      have HU4 := Lib.hid (up HU.out b)
      have s0 := (b.cell (p := ⟨g, 0, none⟩) (cell_lt s0)).trans s0
      have s1 := (b.cell (p := ⟨g, 1, none⟩) (cell_lt s1)).trans s1
      clear b C1
      go_wp2_with fail
      ((with_reducible refine (C2.out w4 HV4.out).mono ?_); rintro e w5 ⟨rfl, b⟩)
      have HU5 := Lib.hid (up HU4.out b)
      clear b C2
      go_wp2_with fail
      ((with_reducible refine (works _ (HT.out.later (up HB2.out HU5.out))).mono ?_); rintro e w6 ⟨rfl, b⟩)
      have HU6 := Lib.hid (up HU5.out b)
      clear b
      go_wp2_with fail
      go_ret
      exact ⟨rfl, up HB2.out HU6.out⟩
end Go.Proofs.YtjmphlboickhdaaGreatDoor
