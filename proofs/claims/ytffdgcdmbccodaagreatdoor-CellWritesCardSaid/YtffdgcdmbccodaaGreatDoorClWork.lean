/- The law's examples: text, none, bits, off, works. -/
import Derived.Test.YtffdgcdmbccodaaGreatDoorClReadB
import Derived.Test.YtffdgcdmbccodaaGreatDoorClDoB
import Derived.Test.YtffdgcdmbccodaaGreatDoorClUnbB
import Derived.Test.YtffdgcdmbccodaaGreatDoorClZc
namespace Go.Proofs.YtffdgcdmbccodaaGreatDoor
open Go.RowKit
set_option linter.unusedVariables false
set_option maxRecDepth 100000

theorem lText (k : Int) (u : Bool) (c : Cl.C) (want : ByteArray) (e0 : Nat) (z : Int) (hz : z = (e0 : Nat)) (w : World) (T : TA w) (hi : Cl.I64 c.n) (hm : c.s.size ≤ 1000000) (he : Cl.chk u k c = e0) (hx : (if e0 = 0 then Cl.txt k c else ⟨#[]⟩) = want) :
    Calls Tryz.prog 72 #[.int .i64 k, .bool u, cv c, .string want, .int .i64 z] w fun e w' => e = .returned (.bool true) ∧ Below w.heap.size w w' := by
  have HC := Lib.hid (fun w1 (hb : Below w.heap.size w w1) => texts u k c w1 (T.later hb) hi hm e0 he want hx)
  have hq : (want.toList == want.toList) = true := by simp
  subst hz
  clear T hi hm he hx
  obtain ⟨u0, n, s⟩ := c
  unfold tv at HC
  unfold cv at HC ⊢
  simp only at HC ⊢
  go_enter Tryz.func72, Tryz.ntmps72
  go_wp2_with fail
  ((with_reducible refine (HC.out _ (box_new _ _)).mono ?_); rintro e w1 ⟨rfl, b1⟩)
  have B1 := Lib.hid ((box_new w _).trans (b1.mono (by simp)))
  clear b1
  go_wp2_with fail
  go_ret
  exact ⟨rfl, B1.out⟩
theorem lBits (k : Int) (u : Bool) (c : Cl.C) (want : ByteArray) (w : World) (T : TA w) (hi : Cl.I64 c.n) (hm : c.s.size ≤ 1000000) (he : Cl.chk u k c = 0) (hx : str (Cl.bts u k c) = want) :
    Calls Tryz.prog 74 #[.int .i64 k, .bool u, cv c, .string want] w fun e w' => e = .returned (.bool true) ∧ Below w.heap.size w w' := by
  have HC := Lib.hid (fun w1 (hb : Below w.heap.size w w1) => bitss u k c w1 (T.later hb) hi hm 0 he want hx)
  have hq : (want.toList == want.toList) = true := by simp
  clear T hi hm he hx
  obtain ⟨u0, n, s⟩ := c
  unfold tv at HC
  unfold cv at HC ⊢
  simp only at HC ⊢
  go_enter Tryz.func74, Tryz.ntmps74
  go_wp2_with fail
  ((with_reducible refine (HC.out _ (box_new _ _)).mono ?_); rintro e w1 ⟨rfl, b1⟩)
  have B1 := Lib.hid ((box_new w _).trans (b1.mono (by simp)))
  clear b1
  go_wp2_with fail
  go_ret
  exact ⟨rfl, B1.out⟩
theorem lNone (k : Int) (u : Bool) (s : ByteArray) (w : World) (T : TA w) (hm : s.size ≤ 1000) (hr : Cl.Rdd u k s Cl.empty 4) :
    Calls Tryz.prog 73 #[.int .i64 k, .bool u, .string s] w fun e w' => e = .returned (.bool true) ∧ Below w.heap.size w w' := by
  have HC := Lib.hid ((reads u k s w T (by omega)).mono (fun e w' ⟨c, e0, h1, h2, _, _, h5⟩ => (by
    obtain ⟨rfl, rfl⟩ := Cl.Rdd.only h2 hr
    exact ⟨h1, h5⟩ : e = Ending.returned (.tuple #[cv Cl.empty, .int .i64 ((4 : Nat) : Int)]) ∧ Below w.heap.size w w')))
  have HE := fun w => run_eqc Cl.empty Cl.empty w
  rw [eqc_dec _ _ true (by simp)] at HE
  clear T hr
  unfold tv at HC
  unfold cv Cl.empty at HC HE
  simp only at HC HE
  go_enter Tryz.func73, Tryz.ntmps73
  go_wp2_with fail
  ((with_reducible refine HC.out.mono ?_); rintro e w1 ⟨rfl, b1⟩)
  have B1 := Lib.hid b1
  clear b1
  go_wp2_with fail
  go_ret
  exact ⟨rfl, B1.out.alloc B1.out.size _⟩
theorem lOff (s want : ByteArray) (n e0 : Nat) (zn ze : Int) (hn : zn = (n : Nat)) (hz : ze = (e0 : Nat)) (w : World) (T : TA w) (hm : s.size ≤ 1000) (hr : Cl.unb false 4 (bl s) = (⟨false, 0, want⟩, n, e0)) :
    Calls Tryz.prog 75 #[.string s, .string want, .int .i64 zn, .int .i64 ze] w fun e w' => e = .returned (.bool true) ∧ Below w.heap.size w w' := by
  have HC := Lib.hid (unbits false 4 s w T (by omega) _ hr)
  have HE := fun w => run_eqc ⟨false, 0, want⟩ ⟨false, 0, want⟩ w
  rw [eqc_dec _ _ true (by simp)] at HE
  subst hn
  subst hz
  clear T hr
  unfold UbPost tv at HC
  unfold cv at HC HE
  simp only at HC HE
  go_enter Tryz.func75, Tryz.ntmps75
  go_wp2_with fail
  ((with_reducible refine HC.out.mono ?_); rintro e w1 ⟨rfl, b1⟩)
  have B1 := Lib.hid b1
  clear b1
  go_wp2_with fail
  go_ret
  exact ⟨rfl, B1.out.alloc B1.out.size _⟩
theorem its_one (n : Int) (b : Bool) (u : Nat) (hb : decide (n < 0) = b) (hu : n.natAbs = u) (h : u < 10) : bl (itS n) = Jr.sgn b ++ [48 + u] := by
  rw [itS_bl, hb, hu, Jr.dcs_small h, List.append_nil]
theorem none_num (k : Int) (u : Bool) (s : ByteArray) (v : Int) (hk : k = 2 ∨ k = 3) (hp : Lib.parseIntB 64 s.data.toList = .ok v) (hs : itS v ≠ s) (hn : s ≠ Cl.nullB) : Cl.Rdd u k s Cl.empty 4 := by
  refine .inr (.inr ⟨by rcases hk with rfl | rfl <;> rfl, rfl, rfl, fun d hd hi hx => ?_⟩)
  rcases Cl.of_parts hd with ⟨d1, _⟩ | ⟨d1, d2⟩
  · exact hn (by rw [← hx]; unfold Cl.txt; rw [if_pos d1])
  · rw [txt_at d1, if_neg (by rcases hk with rfl | rfl <;> decide), if_pos hk] at hx
    have := parse_itS d.n hi.1 hi.2
    rw [hx, hp] at this
    injection this with this
    exact hs (by rw [this]; exact hx)
theorem none_a : Cl.Rdd false 3 ⟨#[48, 48, 55]⟩ Cl.empty 4 := none_num 3 false _ 7 (.inr rfl) (by decide +kernel) (fun e => by
  have := congrArg List.length (congrArg bl e)
  rw [its_one 7 false 7 (by decide) rfl (by decide)] at this
  revert this; decide) (fun e => absurd (congrArg bl e) (by decide))
theorem none_d : Cl.Rdd true 2 ⟨#[45, 48]⟩ Cl.empty 4 := none_num 2 true _ 0 (.inl rfl) (by decide +kernel) (fun e => by
  have := congrArg List.length (congrArg bl e)
  rw [its_one 0 false 0 (by decide) rfl (by decide)] at this
  revert this; decide) (fun e => absurd (congrArg bl e) (by decide))
theorem none_c : Cl.Rdd false 1 Cl.nullB Cl.empty 4 := by
  refine .inr (.inr ⟨rfl, rfl, rfl, fun d hd hi hx => ?_⟩)
  rcases Cl.of_parts hd with ⟨d1, d2, _⟩ | ⟨d1, d2⟩
  · cases d2
  · exact Cl.txt_null d2 hx
theorem none_b : Cl.Rdd false 5 ⟨#[120, 70, 48]⟩ Cl.empty 4 := by
  refine .inr (.inr ⟨rfl, rfl, rfl, fun d hd hi hx => ?_⟩)
  rcases Cl.of_parts hd with ⟨d1, d2, _⟩ | ⟨d1, d2⟩
  · cases d2
  · rw [txt_at d1] at hx
    have hx : str (120 :: Cl.hexs (bl d.s)) = ⟨#[120, 70, 48]⟩ := hx
    have h1 := congrArg bl hx
    rw [bl_str _ (fun y hy => by
      simp only [List.mem_cons] at hy
      rcases hy with rfl | hy
      · omega
      · exact Cl.hexs_byte (bl_byte d.s) y hy)] at h1
    cases hb : bl d.s with
    | nil => rw [hb] at h1; revert h1; decide
    | cons b t =>
      rw [hb, Cl.hexs_cons] at h1
      have h2 : 120 :: Utf.hex (b / 16) :: Utf.hex (b % 16) :: Cl.hexs t = [120, 70, 48] := h1
      injection h2 with _ h2
      injection h2 with h2 _
      unfold Utf.hex at h2
      split at h2 <;> omega

theorem ct0 (w : World) (T : TA w) : Calls Tryz.prog 72 #[.int .i64 2, .bool false, .agg #[.bool false, .int .i64 (-5), .string (⟨#[]⟩ : ByteArray)], .string (⟨#[45, 53]⟩ : ByteArray), .int .i64 0] w fun e w' => e = .returned (.bool true) ∧ Below w.heap.size w w' :=
  lText 2 false ⟨false, -5, (⟨#[]⟩ : ByteArray)⟩ (⟨#[45, 53]⟩ : ByteArray) 0 0 rfl w T (by constructor <;> decide) (by decide) (by decide +kernel) (bl_inj (by show bl (itS (-5)) = _; rw [its_one (-5) true 5 (by decide) rfl (by decide)]; rfl))
theorem ct1 (w : World) (T : TA w) : Calls Tryz.prog 72 #[.int .i64 1, .bool false, .agg #[.bool false, .int .i64 (1), .string (⟨#[]⟩ : ByteArray)], .string (⟨#[116, 114, 117, 101]⟩ : ByteArray), .int .i64 0] w fun e w' => e = .returned (.bool true) ∧ Below w.heap.size w w' :=
  lText 1 false ⟨false, 1, (⟨#[]⟩ : ByteArray)⟩ (⟨#[116, 114, 117, 101]⟩ : ByteArray) 0 0 rfl w T (by constructor <;> decide) (by decide) (by decide +kernel) (rfl)
theorem ct2 (w : World) (T : TA w) : Calls Tryz.prog 72 #[.int .i64 4, .bool true, .agg #[.bool true, .int .i64 (0), .string (⟨#[]⟩ : ByteArray)], .string (⟨#[110, 117, 108, 108]⟩ : ByteArray), .int .i64 0] w fun e w' => e = .returned (.bool true) ∧ Below w.heap.size w w' :=
  lText 4 true ⟨true, 0, (⟨#[]⟩ : ByteArray)⟩ (⟨#[110, 117, 108, 108]⟩ : ByteArray) 0 0 rfl w T (by constructor <;> decide) (by decide) (by decide +kernel) (rfl)
theorem ct3 (w : World) (T : TA w) : Calls Tryz.prog 72 #[.int .i64 4, .bool false, .agg #[.bool false, .int .i64 (0), .string (⟨#[97, 34, 98]⟩ : ByteArray)], .string (⟨#[34, 97, 92, 34, 98, 34]⟩ : ByteArray), .int .i64 0] w fun e w' => e = .returned (.bool true) ∧ Below w.heap.size w w' :=
  lText 4 false ⟨false, 0, (⟨#[97, 34, 98]⟩ : ByteArray)⟩ (⟨#[34, 97, 92, 34, 98, 34]⟩ : ByteArray) 0 0 rfl w T (by constructor <;> decide) (by decide) (by decide +kernel) (bl_inj (by decide +kernel))
theorem ct4 (w : World) (T : TA w) : Calls Tryz.prog 72 #[.int .i64 5, .bool false, .agg #[.bool false, .int .i64 (0), .string (⟨#[0, 255]⟩ : ByteArray)], .string (⟨#[120, 48, 48, 102, 102]⟩ : ByteArray), .int .i64 0] w fun e w' => e = .returned (.bool true) ∧ Below w.heap.size w w' :=
  lText 5 false ⟨false, 0, (⟨#[0, 255]⟩ : ByteArray)⟩ (⟨#[120, 48, 48, 102, 102]⟩ : ByteArray) 0 0 rfl w T (by constructor <;> decide) (by decide) (by decide +kernel) (bl_inj (by decide +kernel))
theorem ct5 (w : World) (T : TA w) : Calls Tryz.prog 72 #[.int .i64 1, .bool false, .agg #[.bool false, .int .i64 (2), .string (⟨#[]⟩ : ByteArray)], .string (⟨#[]⟩ : ByteArray), .int .i64 90] w fun e w' => e = .returned (.bool true) ∧ Below w.heap.size w w' :=
  lText 1 false ⟨false, 2, (⟨#[]⟩ : ByteArray)⟩ (⟨#[]⟩ : ByteArray) 90 90 rfl w T (by constructor <;> decide) (by decide) (by decide +kernel) (rfl)
theorem ct6 (w : World) (T : TA w) : Calls Tryz.prog 72 #[.int .i64 2, .bool false, .agg #[.bool false, .int .i64 (2147483648), .string (⟨#[]⟩ : ByteArray)], .string (⟨#[]⟩ : ByteArray), .int .i64 90] w fun e w' => e = .returned (.bool true) ∧ Below w.heap.size w w' :=
  lText 2 false ⟨false, 2147483648, (⟨#[]⟩ : ByteArray)⟩ (⟨#[]⟩ : ByteArray) 90 90 rfl w T (by constructor <;> decide) (by decide) (by decide +kernel) (rfl)
theorem ct7 (w : World) (T : TA w) : Calls Tryz.prog 72 #[.int .i64 4, .bool false, .agg #[.bool false, .int .i64 (0), .string (⟨#[255]⟩ : ByteArray)], .string (⟨#[]⟩ : ByteArray), .int .i64 90] w fun e w' => e = .returned (.bool true) ∧ Below w.heap.size w w' :=
  lText 4 false ⟨false, 0, (⟨#[255]⟩ : ByteArray)⟩ (⟨#[]⟩ : ByteArray) 90 90 rfl w T (by constructor <;> decide) (by decide) (by decide +kernel) (rfl)
theorem ct8 (w : World) (T : TA w) : Calls Tryz.prog 72 #[.int .i64 1, .bool false, .agg #[.bool true, .int .i64 (0), .string (⟨#[]⟩ : ByteArray)], .string (⟨#[]⟩ : ByteArray), .int .i64 90] w fun e w' => e = .returned (.bool true) ∧ Below w.heap.size w w' :=
  lText 1 false ⟨true, 0, (⟨#[]⟩ : ByteArray)⟩ (⟨#[]⟩ : ByteArray) 90 90 rfl w T (by constructor <;> decide) (by decide) (by decide +kernel) (rfl)
theorem cn0 (w : World) (T : TA w) : Calls Tryz.prog 73 #[.int .i64 3, .bool false, .string (⟨#[48, 48, 55]⟩ : ByteArray)] w fun e w' => e = .returned (.bool true) ∧ Below w.heap.size w w' := lNone 3 false (⟨#[48, 48, 55]⟩ : ByteArray) w T (by decide) none_a
theorem cn1 (w : World) (T : TA w) : Calls Tryz.prog 73 #[.int .i64 5, .bool false, .string (⟨#[120, 70, 48]⟩ : ByteArray)] w fun e w' => e = .returned (.bool true) ∧ Below w.heap.size w w' := lNone 5 false (⟨#[120, 70, 48]⟩ : ByteArray) w T (by decide) none_b
theorem cn2 (w : World) (T : TA w) : Calls Tryz.prog 73 #[.int .i64 1, .bool false, .string (⟨#[110, 117, 108, 108]⟩ : ByteArray)] w fun e w' => e = .returned (.bool true) ∧ Below w.heap.size w w' := lNone 1 false (⟨#[110, 117, 108, 108]⟩ : ByteArray) w T (by decide) none_c
theorem cn3 (w : World) (T : TA w) : Calls Tryz.prog 73 #[.int .i64 2, .bool true, .string (⟨#[45, 48]⟩ : ByteArray)] w fun e w' => e = .returned (.bool true) ∧ Below w.heap.size w w' := lNone 2 true (⟨#[45, 48]⟩ : ByteArray) w T (by decide) none_d
theorem cb0 (w : World) (T : TA w) : Calls Tryz.prog 74 #[.int .i64 2, .bool false, .agg #[.bool false, .int .i64 (-1), .string (⟨#[]⟩ : ByteArray)], .string (⟨#[127, 255, 255, 255, 255, 255, 255, 255]⟩ : ByteArray)] w fun e w' => e = .returned (.bool true) ∧ Below w.heap.size w w' :=
  lBits 2 false ⟨false, -1, (⟨#[]⟩ : ByteArray)⟩ (⟨#[127, 255, 255, 255, 255, 255, 255, 255]⟩ : ByteArray) w T (by constructor <;> decide) (by decide) (by decide +kernel) (bl_inj (by decide +kernel))
theorem cb1 (w : World) (T : TA w) : Calls Tryz.prog 74 #[.int .i64 3, .bool true, .agg #[.bool false, .int .i64 (1), .string (⟨#[]⟩ : ByteArray)], .string (⟨#[1, 128, 0, 0, 0, 0, 0, 0, 1]⟩ : ByteArray)] w fun e w' => e = .returned (.bool true) ∧ Below w.heap.size w w' :=
  lBits 3 true ⟨false, 1, (⟨#[]⟩ : ByteArray)⟩ (⟨#[1, 128, 0, 0, 0, 0, 0, 0, 1]⟩ : ByteArray) w T (by constructor <;> decide) (by decide) (by decide +kernel) (bl_inj (by decide +kernel))
theorem cb2 (w : World) (T : TA w) : Calls Tryz.prog 74 #[.int .i64 1, .bool true, .agg #[.bool true, .int .i64 (0), .string (⟨#[]⟩ : ByteArray)], .string (⟨#[0]⟩ : ByteArray)] w fun e w' => e = .returned (.bool true) ∧ Below w.heap.size w w' :=
  lBits 1 true ⟨true, 0, (⟨#[]⟩ : ByteArray)⟩ (⟨#[0]⟩ : ByteArray) w T (by constructor <;> decide) (by decide) (by decide +kernel) (bl_inj (by decide +kernel))
theorem cb3 (w : World) (T : TA w) : Calls Tryz.prog 74 #[.int .i64 5, .bool false, .agg #[.bool false, .int .i64 (0), .string (⟨#[97, 0]⟩ : ByteArray)], .string (⟨#[97, 0, 255, 0, 0]⟩ : ByteArray)] w fun e w' => e = .returned (.bool true) ∧ Below w.heap.size w w' :=
  lBits 5 false ⟨false, 0, (⟨#[97, 0]⟩ : ByteArray)⟩ (⟨#[97, 0, 255, 0, 0]⟩ : ByteArray) w T (by constructor <;> decide) (by decide) (by decide +kernel) (bl_inj (by decide +kernel))
theorem co0 (w : World) (T : TA w) : Calls Tryz.prog 75 #[.string (⟨#[97, 0, 0, 98]⟩ : ByteArray), .string (⟨#[97]⟩ : ByteArray), .int .i64 3, .int .i64 0] w fun e w' => e = .returned (.bool true) ∧ Below w.heap.size w w' := lOff (⟨#[97, 0, 0, 98]⟩ : ByteArray) (⟨#[97]⟩ : ByteArray) 3 0 3 0 rfl rfl w T (by decide) (by kernel_rfl)
theorem co1 (w : World) (T : TA w) : Calls Tryz.prog 75 #[.string (⟨#[97, 0]⟩ : ByteArray), .string (⟨#[]⟩ : ByteArray), .int .i64 0, .int .i64 3] w fun e w' => e = .returned (.bool true) ∧ Below w.heap.size w w' := lOff (⟨#[97, 0]⟩ : ByteArray) (⟨#[]⟩ : ByteArray) 0 3 0 3 rfl rfl w T (by decide) (by kernel_rfl)
theorem co2 (w : World) (T : TA w) : Calls Tryz.prog 75 #[.string (⟨#[97, 0, 1]⟩ : ByteArray), .string (⟨#[]⟩ : ByteArray), .int .i64 0, .int .i64 4] w fun e w' => e = .returned (.bool true) ∧ Below w.heap.size w w' := lOff (⟨#[97, 0, 1]⟩ : ByteArray) (⟨#[]⟩ : ByteArray) 0 4 0 4 rfl rfl w T (by decide) (by kernel_rfl)
theorem co3 (w : World) (T : TA w) : Calls Tryz.prog 75 #[.string (⟨#[255, 0, 0]⟩ : ByteArray), .string (⟨#[]⟩ : ByteArray), .int .i64 0, .int .i64 4] w fun e w' => e = .returned (.bool true) ∧ Below w.heap.size w w' := lOff (⟨#[255, 0, 0]⟩ : ByteArray) (⟨#[]⟩ : ByteArray) 0 4 0 4 rfl rfl w T (by decide) (by kernel_rfl)
theorem cc0 (w : World) (T : TA w) : Calls Tryz.prog 34 #[.agg #[.bool true, .int .i64 (0), .string (⟨#[]⟩ : ByteArray)], .agg #[.bool false, .int .i64 (-9), .string (⟨#[]⟩ : ByteArray)]] w fun e w' => e = .returned (.int .i64 (-1)) ∧ Below w.heap.size w w' := cCompare ⟨true, 0, (⟨#[]⟩ : ByteArray)⟩ ⟨false, -9, (⟨#[]⟩ : ByteArray)⟩ w _ (by decide +kernel)
theorem cc1 (w : World) (T : TA w) : Calls Tryz.prog 34 #[.agg #[.bool false, .int .i64 (3), .string (⟨#[]⟩ : ByteArray)], .agg #[.bool false, .int .i64 (2), .string (⟨#[]⟩ : ByteArray)]] w fun e w' => e = .returned (.int .i64 (1)) ∧ Below w.heap.size w w' := cCompare ⟨false, 3, (⟨#[]⟩ : ByteArray)⟩ ⟨false, 2, (⟨#[]⟩ : ByteArray)⟩ w _ (by decide +kernel)
theorem cc2 (w : World) (T : TA w) : Calls Tryz.prog 34 #[.agg #[.bool false, .int .i64 (0), .string (⟨#[97]⟩ : ByteArray)], .agg #[.bool false, .int .i64 (0), .string (⟨#[97, 98]⟩ : ByteArray)]] w fun e w' => e = .returned (.int .i64 (-1)) ∧ Below w.heap.size w w' := cCompare ⟨false, 0, (⟨#[97]⟩ : ByteArray)⟩ ⟨false, 0, (⟨#[97, 98]⟩ : ByteArray)⟩ w _ (by decide +kernel)
set_option maxHeartbeats 8000000 in
theorem works (w : World) (T : TA w) : Calls Tryz.prog 36 #[] w fun e w' => e = .returned (.bool true) ∧ Below w.heap.size w w' := by
  have B0 := Lib.hid (Below.refl w.heap.size w)
  have HT := Lib.hid T
  clear T
  go_enter Tryz.func36, Tryz.ntmps36
  go_wp2_with fail
  ((with_reducible refine (ct0 _ (HT.out.later B0.out)).mono ?_); rintro e w1 ⟨rfl, b⟩)
  have B1 := Lib.hid (up B0.out b)
  clear b
  go_wp2_with fail
  ((with_reducible refine (ct1 _ (HT.out.later B1.out)).mono ?_); rintro e w2 ⟨rfl, b⟩)
  have B2 := Lib.hid (up B1.out b)
  clear b
  go_wp2_with fail
  ((with_reducible refine (ct2 _ (HT.out.later B2.out)).mono ?_); rintro e w3 ⟨rfl, b⟩)
  have B3 := Lib.hid (up B2.out b)
  clear b
  go_wp2_with fail
  ((with_reducible refine (ct3 _ (HT.out.later B3.out)).mono ?_); rintro e w4 ⟨rfl, b⟩)
  have B4 := Lib.hid (up B3.out b)
  clear b
  go_wp2_with fail
  ((with_reducible refine (ct4 _ (HT.out.later B4.out)).mono ?_); rintro e w5 ⟨rfl, b⟩)
  have B5 := Lib.hid (up B4.out b)
  clear b
  go_wp2_with fail
  ((with_reducible refine (ct5 _ (HT.out.later B5.out)).mono ?_); rintro e w6 ⟨rfl, b⟩)
  have B6 := Lib.hid (up B5.out b)
  clear b
  go_wp2_with fail
  ((with_reducible refine (ct6 _ (HT.out.later B6.out)).mono ?_); rintro e w7 ⟨rfl, b⟩)
  have B7 := Lib.hid (up B6.out b)
  clear b
  go_wp2_with fail
  ((with_reducible refine (ct7 _ (HT.out.later B7.out)).mono ?_); rintro e w8 ⟨rfl, b⟩)
  have B8 := Lib.hid (up B7.out b)
  clear b
  go_wp2_with fail
  ((with_reducible refine (ct8 _ (HT.out.later B8.out)).mono ?_); rintro e w9 ⟨rfl, b⟩)
  have B9 := Lib.hid (up B8.out b)
  clear b
  go_wp2_with fail
  ((with_reducible refine (cn0 _ (HT.out.later B9.out)).mono ?_); rintro e w10 ⟨rfl, b⟩)
  have B10 := Lib.hid (up B9.out b)
  clear b
  go_wp2_with fail
  ((with_reducible refine (cn1 _ (HT.out.later B10.out)).mono ?_); rintro e w11 ⟨rfl, b⟩)
  have B11 := Lib.hid (up B10.out b)
  clear b
  go_wp2_with fail
  ((with_reducible refine (cn2 _ (HT.out.later B11.out)).mono ?_); rintro e w12 ⟨rfl, b⟩)
  have B12 := Lib.hid (up B11.out b)
  clear b
  go_wp2_with fail
  ((with_reducible refine (cn3 _ (HT.out.later B12.out)).mono ?_); rintro e w13 ⟨rfl, b⟩)
  have B13 := Lib.hid (up B12.out b)
  clear b
  go_wp2_with fail
  ((with_reducible refine (cb0 _ (HT.out.later B13.out)).mono ?_); rintro e w14 ⟨rfl, b⟩)
  have B14 := Lib.hid (up B13.out b)
  clear b
  go_wp2_with fail
  ((with_reducible refine (cb1 _ (HT.out.later B14.out)).mono ?_); rintro e w15 ⟨rfl, b⟩)
  have B15 := Lib.hid (up B14.out b)
  clear b
  go_wp2_with fail
  ((with_reducible refine (cb2 _ (HT.out.later B15.out)).mono ?_); rintro e w16 ⟨rfl, b⟩)
  have B16 := Lib.hid (up B15.out b)
  clear b
  go_wp2_with fail
  ((with_reducible refine (cb3 _ (HT.out.later B16.out)).mono ?_); rintro e w17 ⟨rfl, b⟩)
  have B17 := Lib.hid (up B16.out b)
  clear b
  go_wp2_with fail
  ((with_reducible refine (co0 _ (HT.out.later B17.out)).mono ?_); rintro e w18 ⟨rfl, b⟩)
  have B18 := Lib.hid (up B17.out b)
  clear b
  go_wp2_with fail
  ((with_reducible refine (co1 _ (HT.out.later B18.out)).mono ?_); rintro e w19 ⟨rfl, b⟩)
  have B19 := Lib.hid (up B18.out b)
  clear b
  go_wp2_with fail
  ((with_reducible refine (co2 _ (HT.out.later B19.out)).mono ?_); rintro e w20 ⟨rfl, b⟩)
  have B20 := Lib.hid (up B19.out b)
  clear b
  go_wp2_with fail
  ((with_reducible refine (co3 _ (HT.out.later B20.out)).mono ?_); rintro e w21 ⟨rfl, b⟩)
  have B21 := Lib.hid (up B20.out b)
  clear b
  go_wp2_with fail
  ((with_reducible refine (cc0 _ (HT.out.later B21.out)).mono ?_); rintro e w22 ⟨rfl, b⟩)
  have B22 := Lib.hid (up B21.out b)
  clear b
  go_wp2_with fail
  ((with_reducible refine (cc1 _ (HT.out.later B22.out)).mono ?_); rintro e w23 ⟨rfl, b⟩)
  have B23 := Lib.hid (up B22.out b)
  clear b
  go_wp2_with fail
  ((with_reducible refine (cc2 _ (HT.out.later B23.out)).mono ?_); rintro e w24 ⟨rfl, b⟩)
  have B24 := Lib.hid (up B23.out b)
  clear b
  go_wp2_with fail
  go_ret
  exact ⟨rfl, B24.out⟩
end Go.Proofs.YtffdgcdmbccodaaGreatDoor
