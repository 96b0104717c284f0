/- WideKnown's walk. -/
import Derived.Test.YthlhfnafgjecaaaOrder
import Derived.Test.YthlhfnafgjecaaaDoes
import Derived.Test.YthlhfnafgjecaaaDots
import Derived.Test.YthlhfnafgjecaaaChecks
import Derived.Test.YthlhfnafgjecaaaWorks
import Derived.Deep.DeepCutAuto
import Derived.BigRegion
import Derived.Deep.RegionHeld3
namespace Go.Proofs.Ythlhfnafgjecaaa
open Go.RowKit
set_option linter.unusedVariables false

def knowns : List Int := [-9223372036854775808, -9223372036854775807, -4294967296, -2147483649, -3, -2, -1, 0, 1, 2, 3, 2147483647, 2147483648, 4294967296, 3037000499, 3037000500, 4611686018427387904, 9223372036854775806, 9223372036854775807]
theorem knowns_len : knowns.length = 19 := rfl
theorem knowns_fit : ∀ r ∈ knowns, -9223372036854775808 ≤ r ∧ r ≤ 9223372036854775807 := by decide
/-- A row that was laid. -/
theorem row_cell (w : World) (T : TypeId) (cs : List Value) (arr : Array Value) (h : arr = cs.toArray) (k : Nat) (v : Value) (hk : cs[k]? = some v) : (w.alloc (.cells arr T)).cell? ⟨w.heap.size, k, none⟩ = some v := by
  subst h
  rw [cell_of_row _ _ _ _ _ _ (heap_alloc_new w _)]
  simpa using hk
/-- A word of 64 bits, of a number. -/
theorem word_wo (a : Int) : Wd.Wo (IntKind.u64.wrap a) := by simp [Wd.Wo, IntKind.wrap, IntKind.bits, IntKind.signed]; omega
/-- Two new rows. -/
theorem two_new (w : World) (cs ds : Array Value) (T : TypeId) : Below w.heap.size w ((w.alloc (.cells cs T)).alloc (.cells ds T)).drew ∧ (∀ k v, cs[k]? = some v → ((w.alloc (.cells cs T)).alloc (.cells ds T)).drew.cell? ⟨w.heap.size, k, none⟩ = some v) ∧ (∀ k v, ds[k]? = some v → ((w.alloc (.cells cs T)).alloc (.cells ds T)).drew.cell? ⟨w.heap.size + 1, k, none⟩ = some v) := by
  have hs : (w.alloc (.cells cs T)).heap.size = w.heap.size + 1 := by simp
  refine ⟨((up_new w _).alloc (by simp) _).drew, fun k v h => ?_, fun k v h => ?_⟩
  · have h1 : (w.alloc (.cells cs T)).cell? ⟨w.heap.size, k, none⟩ = some v := by
      rw [cell_of_row _ _ _ _ _ _ (heap_alloc_new w _)]; simpa using h
    have hb : Below (w.alloc (.cells cs T)).heap.size (w.alloc (.cells cs T)) ((w.alloc (.cells cs T)).alloc (.cells ds T)).drew := (up_new _ _).drew
    exact (hb.cell (p := ⟨w.heap.size, k, none⟩) (by show w.heap.size < _; omega)).trans h1
  · have h1 : ((w.alloc (.cells cs T)).alloc (.cells ds T)).cell? ⟨(w.alloc (.cells cs T)).heap.size, k, none⟩ = some v := by
      rw [cell_of_row _ _ _ _ _ _ (heap_alloc_new _ _)]; simpa using h
    rw [hs] at h1
    exact h1
theorem cell_later {w w' : World} {p : Addr} {v : Value} (h : w.cell? p = some v) (hb : Below w.heap.size w w') : w'.cell? p = some v := by
  have hlt : p.block < w.heap.size := by
    rcases Nat.lt_or_ge p.block w.heap.size with hlt | hge
    · exact hlt
    · simp [World.cell?, Array.getElem?_eq_none hge] at h
  exact (hb.cell hlt).trans h
/-- What the second statement of the round reads. -/
def KP (W0 : World) (g c k g2 g3 : Nat) (a b α β : Int) (w : World) : Prop := Below W0.heap.size W0 w ∧ w.cell? ⟨g, c, none⟩ = some (.int .i64 a) ∧ w.cell? ⟨g, k, none⟩ = some (.int .i64 b) ∧
  w.cell? ⟨g2, 0, none⟩ = some (.int .u64 α) ∧ w.cell? ⟨g2, 1, none⟩ = some (.int .u64 β) ∧ w.cell? ⟨g2, 2, none⟩ = some (.int .u64 0) ∧ w.cell? ⟨g3, 0, none⟩ = some (.int .u64 β) ∧ w.cell? ⟨g3, 1, none⟩ = some (.int .u64 α) ∧ w.cell? ⟨g3, 2, none⟩ = some (.int .u64 β)
theorem KP.later {W0 w w' : World} {g c k g2 g3 : Nat} {a b α β : Int} (h : KP W0 g c k g2 g3 a b α β w) (hb : Below w.heap.size w w') : KP W0 g c k g2 g3 a b α β w' := by
  obtain ⟨h0, h1, h2, h3, h4, h5, h6, h7, h8⟩ := h
  exact ⟨up h0 hb, cell_later h1 hb, cell_later h2 hb, cell_later h3 hb, cell_later h4 hb, cell_later h5 hb, cell_later h6 hb, cell_later h7 hb, cell_later h8 hb⟩
theorem KP.keep {W0 w : World} {g c k g2 g3 : Nat} {a b α β : Int} (h : KP W0 g c k g2 g3 a b α β w) : KP W0 g c k g2 g3 a b α β w ∧ (w.cell? ⟨g, c, none⟩ = some (.int .i64 a) ∧ w.cell? ⟨g, k, none⟩ = some (.int .i64 b) ∧
  w.cell? ⟨g2, 0, none⟩ = some (.int .u64 α) ∧ w.cell? ⟨g2, 1, none⟩ = some (.int .u64 β) ∧ w.cell? ⟨g2, 2, none⟩ = some (.int .u64 0) ∧ w.cell? ⟨g3, 0, none⟩ = some (.int .u64 β) ∧ w.cell? ⟨g3, 1, none⟩ = some (.int .u64 α) ∧ w.cell? ⟨g3, 2, none⟩ = some (.int .u64 β)) := ⟨h, h.2⟩
set_option maxHeartbeats 16000000 in
set_option maxRecDepth 100000 in
theorem wideKnown (w : World) :
    Calls Try.prog 3 #[] w fun e w' => e = .returned (.bool true) ∧ Below w.heap.size w w' := by
  have HC := Lib.hid (fun (k : Nat) (h : Int) (hk : knowns[k]? = some h) => row_cell w 2 (knowns.map (Value.int .i64)) (knowns.map (Value.int .i64)).toArray rfl k (.int .i64 h) (by rw [List.getElem?_map, hk]; rfl))
  have HB0 := Lib.hid (up_new w (.cells (knowns.map (Value.int .i64)).toArray 2))
  have e0 : (knowns.map (Value.int .i64)).toArray = #[.int .i64 (-9223372036854775808), .int .i64 (-9223372036854775807), .int .i64 (-4294967296), .int .i64 (-2147483649), .int .i64 (-3), .int .i64 (-2), .int .i64 (-1), .int .i64 0, .int .i64 1, .int .i64 2, .int .i64 3, .int .i64 2147483647, .int .i64 2147483648, .int .i64 4294967296, .int .i64 3037000499, .int .i64 3037000500, .int .i64 4611686018427387904, .int .i64 9223372036854775806, .int .i64 9223372036854775807] := rfl
  rw [e0] at HC HB0
  clear e0
  go_enter Try.func3, Try.ntmps3
  go_wp2_with fail
  generalize w.alloc (.cells #[.int .i64 (-9223372036854775808), .int .i64 (-9223372036854775807), .int .i64 (-4294967296), .int .i64 (-2147483649), .int .i64 (-3), .int .i64 (-2), .int .i64 (-1), .int .i64 0, .int .i64 1, .int .i64 2, .int .i64 3, .int .i64 2147483647, .int .i64 2147483648, .int .i64 4294967296, .int .i64 3037000499, .int .i64 3037000500, .int .i64 4611686018427387904, .int .i64 9223372036854775806, .int .i64 9223372036854775807] 2) = W0 at *
  have HG : Hid (w.heap.size < W0.heap.size) := Lib.hid (by
    have := HC.out 0 _ rfl
    rcases Nat.lt_or_ge w.heap.size W0.heap.size with hlt | hge
    · exact hlt
    · simp [World.cell?, Array.getElem?_eq_none hge] at this)
  go_loopw [2] (fun i ww => ∃ c : Nat, c ≤ 19 ∧ i = .int .i64 c ∧ Hid (Below W0.heap.size W0 ww)) (fun i _ => 19 - (intOf i).toNat)
  case atStart => exact ⟨0, by omega, rfl, Lib.hid (Below.refl _ _)⟩
  case round =>
    obtain ⟨c, hc, rfl, HB⟩ := hrel
    by_cases hlt : c < 19
    · have hlt' : (c : Int) < 19 := by omega
      obtain ⟨a, ha⟩ : ∃ a, knowns[c]? = some a := ⟨_, List.getElem?_eq_getElem (by rw [knowns_len]; exact hlt)⟩
      obtain ⟨a0, a1⟩ := knowns_fit a (List.mem_of_getElem? ha)
      go_wp2_with fail
      go_loopw [3] (fun i ww => ∃ k : Nat, k ≤ 19 ∧ i = .int .i64 k ∧ Hid (Below W0.heap.size W0 ww)) (fun i _ => 19 - (intOf i).toNat)
      case atStart => exact ⟨0, by omega, rfl, HB⟩
      case round =>
        clear HB
        obtain ⟨k, hk, rfl, HB⟩ := hrel
        by_cases hkt : k < 19
        · have hkt' : (k : Int) < 19 := by omega
          obtain ⟨b, hb⟩ : ∃ b, knowns[k]? = some b := ⟨_, List.getElem?_eq_getElem (by rw [knowns_len]; exact hkt)⟩
          obtain ⟨b0, b1⟩ := knowns_fit b (List.mem_of_getElem? hb)
          have HWa := Lib.hid (fun (wx : World) (hb : Below W0.heap.size W0 wx) => (hb.cell (p := ⟨w.heap.size, c, none⟩) HG.out).trans (HC.out c a ha))
          have HWb := Lib.hid (fun (wx : World) (hx : Below W0.heap.size W0 wx) => (hx.cell (p := ⟨w.heap.size, k, none⟩) HG.out).trans (HC.out k b hb))
          obtain ⟨α, wa⟩ : ∃ α, IntKind.u64.wrap a = α := ⟨_, rfl⟩
          obtain ⟨β, wb⟩ : ∃ β, IntKind.u64.wrap b = β := ⟨_, rfl⟩
          have oa : Wd.Wo α := wa ▸ word_wo a
          have ob : Wd.Wo β := wb ▸ word_wo b
          have oz : Wd.Wo 0 := by unfold Wd.Wo; omega
          have HS := Lib.hid (fun (wx : World) (hx : Below W0.heap.size W0 wx) => And.intro hx (And.intro (HWa.out wx hx) (HWb.out wx hx)))
          obtain ⟨_, g0, g1⟩ := HS.out _ HB.out
          clear ha hb HWa HWb
          go_upto_region 8 with fail
          go_cut [4, 5] from 15 to 126 (fun s4 s5 wx => ∃ g2 g3 : Nat, s4 = .pointer (some ⟨g2, 0, none⟩) ∧ s5 = .pointer (some ⟨g3, 0, none⟩) ∧ Hid (Below wr.heap.size wr wx ∧ wx.cell? ⟨g2, 0, none⟩ = some (.int .u64 α) ∧ wx.cell? ⟨g2, 1, none⟩ = some (.int .u64 β) ∧ wx.cell? ⟨g2, 2, none⟩ = some (.int .u64 0) ∧ wx.cell? ⟨g3, 0, none⟩ = some (.int .u64 β) ∧ wx.cell? ⟨g3, 1, none⟩ = some (.int .u64 α) ∧ wx.cell? ⟨g3, 2, none⟩ = some (.int .u64 β)))
          case first =>
            go_region_held3 (fun w' => Below W0.heap.size W0 w' ∧ w'.cell? ⟨w.heap.size, c, none⟩ = some (.int .i64 a) ∧ w'.cell? ⟨w.heap.size, k, none⟩ = some (.int .i64 b))
              (first | exact HS.out _ HB.out | exact HS.out _ HB.out.drew | exact HS.out _ (up HB.out (up_new _ _).drew) | exact HS.out _ (up HB.out ((up_new _ _).alloc (by simp) _).drew))
              (fail)
            · go_wp2_with fail
              go_meet
              refine ⟨_, _, rfl, rfl, Lib.hid ?_⟩
              exact ⟨(two_new wr _ _ _).1, (two_new wr _ _ _).2.1 0 _ rfl, (two_new wr _ _ _).2.1 1 _ rfl, (two_new wr _ _ _).2.1 2 _ rfl, (two_new wr _ _ _).2.2 0 _ rfl, (two_new wr _ _ _).2.2 1 _ rfl, (two_new wr _ _ _).2.2 2 _ rfl⟩
            · go_wp2_with fail
              go_meet
              refine ⟨_, _, rfl, rfl, Lib.hid ?_⟩
              exact ⟨(two_new wr _ _ _).1, (two_new wr _ _ _).2.2 0 _ rfl, (two_new wr _ _ _).2.2 1 _ rfl, (two_new wr _ _ _).2.2 2 _ rfl, (two_new wr _ _ _).2.1 0 _ rfl, (two_new wr _ _ _).2.1 1 _ rfl, (two_new wr _ _ _).2.1 2 _ rfl⟩
          case rest =>
            obtain ⟨g2, g3, rfl, rfl, HC3⟩ := hcut
            have ex : Wd.lo (Wd.num α β 0) = α ∧ Wd.mi (Wd.num α β 0) = β ∧ Wd.hi (Wd.num α β 0) = 0 := ⟨Wd.num_lo _ _ _ oa ob oz, Wd.num_mi _ _ _ oa ob oz, Wd.num_hi _ _ _ oa ob oz⟩
            have ey : Wd.lo (Wd.num β α β) = β ∧ Wd.mi (Wd.num β α β) = α ∧ Wd.hi (Wd.num β α β) = β := ⟨Wd.num_lo _ _ _ ob oa ob, Wd.num_mi _ _ _ ob oa ob, Wd.num_hi _ _ _ ob oa ob⟩
            have sx := Wd.num_sg α β 0 oa ob oz
            have sy := Wd.num_sg β α β ob oa ob
            have sny : Wd.Sg (-(Wd.num β α β)) := by unfold Wd.Wo at oa ob; unfold Wd.num Wd.Sg; split <;> omega
            obtain ⟨x, hx⟩ : ∃ x, Wd.num α β 0 = x := ⟨_, rfl⟩
            obtain ⟨y, hy⟩ : ∃ y, Wd.num β α β = y := ⟨_, rfl⟩
            rw [hx] at ex sx
            rw [hy] at ey sy sny
            obtain ⟨p, q, r, ez⟩ : ∃ p q r, Wd.lo (-y) = p ∧ Wd.mi (-y) = q ∧ Wd.hi (-y) = r := ⟨_, _, _, rfl, rfl, rfl⟩
            have c4 := Lib.hid (fun w => wideChecks a b w a0 a1 b0 b1)
            have c5 := Lib.hid (fun w => wideDoes x y (a, b) w sx sy ⟨⟨a0, a1⟩, b0, b1⟩)
            rw [wv_named ex, wv_named ey] at c5
            have c6 := Lib.hid (fun w => wideDots _ _ _ (rdp_lit w [(a, b), (b, b), (a, -1)] #[.int .i64 a, .int .i64 b, .int .i64 b, .int .i64 b, .int .i64 a, .int .i64 (-1)] 3 rfl rfl (by simp) (by simp [Pok]; omega)))
            have c7 := Lib.hid (fun w => wideFits x a w sx a0 a1)
            rw [wv_named ex] at c7
            have c9 := Lib.hid (fun w => neg y w)
            rw [wv_named ey, wv_named ez] at c9
            have c8 := Lib.hid (fun w => wideOrder x y (-y) a b w ⟨sx, sy, sny⟩ a0 a1 b0 b1)
            rw [ex.1, ex.2.1, ex.2.2, ey.1, ey.2.1, ey.2.2, ez.1, ez.2.1, ez.2.2] at c8
            clear hx hy ex ey ez sx sy sny oa ob oz wa wb a0 a1 b0 b1
            have HK : Hid (KP W0 w.heap.size c k g2 g3 a b α β wc) := Lib.hid ⟨up HB.out HC3.out.1, (HS.out _ (up HB.out HC3.out.1)).2.1, (HS.out _ (up HB.out HC3.out.1)).2.2, HC3.out.2⟩
            clear HS g0 g1 HC3 HB
            go_wp2_with fail
            go_region_held3 (fun w' => KP W0 w.heap.size c k g2 g3 a b α β w' ∧ (w'.cell? ⟨w.heap.size, c, none⟩ = some (.int .i64 a) ∧ w'.cell? ⟨w.heap.size, k, none⟩ = some (.int .i64 b) ∧
                w'.cell? ⟨g2, 0, none⟩ = some (.int .u64 α) ∧ w'.cell? ⟨g2, 1, none⟩ = some (.int .u64 β) ∧ w'.cell? ⟨g2, 2, none⟩ = some (.int .u64 0) ∧ w'.cell? ⟨g3, 0, none⟩ = some (.int .u64 β) ∧ w'.cell? ⟨g3, 1, none⟩ = some (.int .u64 α) ∧ w'.cell? ⟨g3, 2, none⟩ = some (.int .u64 β)))
              (first | exact KP.keep HK.out | exact KP.keep (KP.later HK.out (Below.refl _ _).drew) | exact KP.keep (KP.later (And.left (by assumption)) (by assumption)) | exact KP.keep (KP.later (And.left (by assumption)) (up_new _ _)))
              (first
                | (go_at_call 4; (with_reducible refine (c4.out _).mono ?_); rintro e wq1 ⟨rfl, bq1⟩)
                | (go_at_call 5; (with_reducible refine (c5.out _).mono ?_); rintro e wq2 ⟨rfl, bq2⟩)
                | (go_at_call 6; (with_reducible refine (c6.out _).mono ?_); rintro e wq3 ⟨rfl, bq3⟩)
                | (go_at_call 7; (with_reducible refine (c7.out _).mono ?_); rintro e wq4 ⟨rfl, bq4⟩)
                | (go_at_call 9; (with_reducible refine (c9.out _).mono ?_); rintro e wq5 ⟨rfl, bq5⟩)
                | (go_at_call 8; (with_reducible refine (c8.out _).mono ?_); rintro e wq6 ⟨rfl, bq6⟩))
            have HB := Lib.hid (((((((HK.out.later (Below.refl _ _).drew).later bq1).later bq2).later (up (up_new _ _) bq3)).later bq4).later bq5).later bq6).1
            clear bq1 bq2 bq3 bq4 bq5 bq6 HK c4 c5 c6 c7 c8 c9
            go_wp2_with fail
            go_roundw
            case rel => exact ⟨k + 1, by omega, by go_num, HB⟩
            case measure => simp [intOf]; omega
        · have hkt' : ¬ (k : Int) < 19 := by omega
          go_wp2_with fail
          go_roundw
          case rel => exact ⟨c + 1, by omega, by go_num, HB⟩
          case measure => simp [intOf]; omega
    · have hlt' : ¬ (c : Int) < 19 := by omega
      have d1 := Lib.hid (fun w => dot_is (.slice none 0 0) [] 0 0 w (by refine ⟨_, _, rfl, ?_⟩; simp) rfl rfl)
      go_wp2_with fail
      ((with_reducible refine (d1.out _).mono ?_); rintro e w3 ⟨rfl, b3⟩)
      have HB8 := Lib.hid (up HB.out b3)
      clear b3
      go_wp2_with fail
      ((with_reducible refine (works _).mono ?_); rintro e w4 ⟨rfl, b4⟩)
      have HB9 := Lib.hid (up HB0.out (up HB8.out b4))
      clear b4
      go_wp2
      go_ret
      exact ⟨rfl, HB9.out⟩
end Go.Proofs.Ythlhfnafgjecaaa
