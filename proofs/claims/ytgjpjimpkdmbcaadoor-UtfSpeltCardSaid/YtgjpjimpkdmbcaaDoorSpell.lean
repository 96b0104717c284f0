/- The law's spelt. -/
import Derived.Test.YtgjpjimpkdmbcaaDoorSpelt
namespace Go.Proofs.YtgjpjimpkdmbcaaDoor
open Go.RowKit
set_option linter.unusedVariables false

theorem lfour_at (x : Int) (n : Nat) (hx : x = (n : Int)) (D : ByteArray) (dg : Nat → Nat) (hD : Digits D dg) (hn : n < 65536) (w : World) :
    Calls Tryd.prog 42 #[.int .i64 x, .string D] w fun e w' => e = .returned (.string (str (Utf.four dg n))) ∧ Below w.heap.size w w' := by
  subst hx; exact lfour n D dg hD hn w
/-- One letter of a list of eight. -/
theorem one_slice (D : ByteArray) (L : List Nat) (hs : D.size = 8) (hD : ∀ c, c < 8 → D.extract c (c + 1) = str [L.getD c 0]) (c : Nat) (h : c < 8) (w : World) :
    (Instr.slice 9 (.string D) (some (.int .i64 (c : Nat))) (some (.int .i64 ((c : Int) + 1))) none).run Tryd.prog w = .ok (.string (str [L.getD c 0])) w := by
  rw [run_slice_string_if w 9 D .i64 .i64 _ _ Tryd.underlying9, if_pos (by omega), if_pos (by omega), ← hD c h]
  congr 3
theorem eq_one (r x : Nat) (h : Utf.isr r) (hx : x < 128) : ((str (Utf.enc r)).toList == (str [x]).toList) = decide (r = x) := by
  rw [bl_eq, bl_str _ (Utf.enc_byte r h), bl_str _ (by simp; omega), decide_eq_decide]
  by_cases h1 : r < 128
  · rw [Utf.enc_low r h1]; simp
  · constructor
    · intro e
      have := Utf.enc_high r (by omega) x (by rw [e]; simp)
      omega
    · intro e; omega
theorem lt_CS (c : Nat) : Utf.CS.getD c 0 < 128 := by
  by_cases h : c < 8
  · rcases (show c = 0 ∨ c = 1 ∨ c = 2 ∨ c = 3 ∨ c = 4 ∨ c = 5 ∨ c = 6 ∨ c = 7 by omega) with rfl | rfl | rfl | rfl | rfl | rfl | rfl | rfl
    all_goals decide
  · rw [List.getD_eq_getElem?_getD, List.getElem?_eq_none (by simp [Utf.CS]; omega)]; simp
set_option maxHeartbeats 8000000 in
set_option maxRecDepth 100000 in
theorem spelt (v u : Value) (l how : List Int) (w : World) (hl : RdI w w.heap.size v l) (hu : RdI w w.heap.size u how) :
    Calls Tryd.prog 26 #[v, u] w fun e w' => e = .returned (.string (str (lit l how))) ∧ Below w.heap.size w w' := by
  have HL := Lib.hid hl
  have HU := Lib.hid hu
  obtain ⟨a, c, rfl, hlc, hcc, hbb, hcell⟩ := id hl
  obtain ⟨a2, c2, rfl, hlc2, hcc2, hbb2, hcell2⟩ := id hu
  unfold maxLen at hcc hcc2
  have HB := Lib.hid hbb
  have HB2 := Lib.hid hbb2
  clear hl hu hbb hcell hbb2 hcell2
  go_enter Tryd.func26, Tryd.ntmps26
  go_wp2
  go_loopw [5, 6] (fun v i wr => ∃ (k : Nat) (t : ByteArray), k ≤ l.length ∧ k ≤ 60 ∧ i = .int .i64 k ∧ v = .string t ∧ Hid (t = str (34 :: (ps l how k).flatMap Prod.snd)) ∧ Below w.heap.size w wr) (fun _ i _ => 60 - (intOf i).toNat)
  case atStart => exact ⟨0, _, by omega, by omega, rfl, rfl, Lib.hid (by simp [ps]; decide +kernel), Below.refl _ _⟩
  case round =>
    obtain ⟨k, t, hk, hk60, rfl, rfl, HT, hb⟩ := hrel
    have HW := Lib.hid hb
    by_cases hlt : k < l.length ∧ k < 60
    · obtain ⟨h1, h2⟩ := hlt
      obtain ⟨a', c', e1, -, -, -, e5⟩ := HL.out.on hb
      injection e1 with e1 e2 e3
      subst e1 e3
      obtain ⟨b, off, rfl, hbl2, hcl⟩ := e5 (by omega)
      have hce := hcl k h1
      have hbd := HB.out (l.getD k 0) (by simp [List.getElem?_eq_getElem h1])
      have hrt := ps_succ l how k
      have hir := oneN_rune (l.getD k 0)
      have hel := Utf.enc_len (oneN (l.getD k 0))
      have CO := one (l.getD k 0) wr hbd.1 hbd.2 _ rfl
      have CP := fun wx => put_yes (oneN (l.getD k 0)) wx hir
      have hq := fun x => eq_one (oneN (l.getD k 0)) x hir
      have hss := str_size (Utf.enc (oneN (l.getD k 0)))
      have hwl := Utf.way_len (kk how k) (oneN (l.getD k 0))
      have hts : t.size ≤ 721 := by
        rw [HT.out, str_size, List.length_cons]
        have := ps_len l how k
        omega
      generalize oneN (l.getD k 0) = r at *
      generalize l.getD k 0 = x at *
      have h2' : (k : Int) < 60 := by omega
      have h1' : (k : Int) < l.length := by omega
      have HRT := Lib.hid hrt
      have HIR := Lib.hid hir
      have HQ := Lib.hid hq
      have hr1 : r < 1114112 := by unfold Utf.isr at hir; omega
      clear hcl hrt hir hq hbd e5 hb
      by_cases hz : how = []
      · have hK : kk how k = 0 := by unfold kk; rw [if_pos hz]
        have hz2 : how.length = 0 := by rw [hz]; rfl
        have hz3 : ¬ (0 < (how.length : Int)) := by omega
        rw [hK] at HRT hwl
        clear hz hK hz2
        go_wp2_with fail
        ((with_reducible refine CO.mono ?_); rintro x w' ⟨rfl, rfl⟩)
        go_wp2_with fail
        ((with_reducible refine (CP _).mono ?_); rintro x w' ⟨rfl, rfl⟩)
        go_wp2
        have B1 := Lib.hid (HW.out.alloc HW.out.size (.cells #[.string ⟨#[48, 49, 50, 51, 52, 53, 54, 55, 56, 57, 97, 98, 99, 100, 101, 102]⟩, .string ⟨#[48, 49, 50, 51, 52, 53, 54, 55, 56, 57, 65, 66, 67, 68, 69, 70]⟩] 9))
        go_loop [12, 13] (fun v i => ∃ (c : Nat) (t : ByteArray), c ≤ 8 ∧ i = .int .i64 c ∧ v = .string t ∧ Hid (t = str (Utf.sh r c))) (fun _ i => 8 - (intOf i).toNat)
        case atStart => exact ⟨0, _, by omega, rfl, rfl, Lib.hid (show (⟨#[]⟩ : ByteArray) = str [] by decide +kernel)⟩
        case round =>
          obtain ⟨c, t3, hc, rfl, rfl, HT3⟩ := hrel
          by_cases hc8 : c < 8
          · have sc := fun w => one_slice ⟨#[34, 92, 47, 8, 12, 10, 13, 9]⟩ Utf.CS rfl (by decide +kernel) c hc8 w
            have sd := fun w => one_slice ⟨#[34, 92, 47, 98, 102, 110, 114, 116]⟩ Utf.DS rfl (by decide +kernel) c hc8 w
            have hcq := HQ.out (Utf.CS.getD c 0) (lt_CS c)
            have hsz := str_size [Utf.CS.getD c 0]
            have hsz2 := str_size [Utf.DS.getD c 0]
            have hsh : Utf.sh r (c + 1) = if r = Utf.CS.getD c 0 then [92, Utf.DS.getD c 0] else Utf.sh r c := rfl
            have hap : (⟨#[92]⟩ : ByteArray) ++ str [Utf.DS.getD c 0] = str [92, Utf.DS.getD c 0] := by
              rw [show (⟨#[92]⟩ : ByteArray) = str [92] by decide +kernel, ← str_append]; rfl
            simp only [List.length_cons, List.length_nil] at hsz hsz2
            have hno := no_over ⟨#[92]⟩ (str [Utf.DS.getD c 0]) (by rw [hsz2]; decide)
            have HAP := Lib.hid hap
            clear hap
            have h8 : (c : Int) < 8 := by omega
            by_cases hrc : r = Utf.CS.getD c 0
            · rw [if_pos hrc] at hsh
              rw [decide_eq_true hrc] at hcq
              have HSH := Lib.hid hsh
              clear hsh hrc
              generalize str [Utf.CS.getD c 0] = q1 at *
              generalize str [Utf.DS.getD c 0] = q2 at *
              generalize str (Utf.enc r) = q at *
              go_wp2
              go_round
              case rel => exact ⟨c + 1, _, by omega, by go_num, rfl, Lib.hid (by rw [HSH.out]; exact HAP.out)⟩
              case measure => simp [intOf]; omega
            · rw [if_neg hrc] at hsh
              rw [decide_eq_false hrc] at hcq
              have HSH := Lib.hid hsh
              clear hsh hrc
              generalize str [Utf.CS.getD c 0] = q1 at *
              generalize str [Utf.DS.getD c 0] = q2 at *
              generalize str (Utf.enc r) = q at *
              go_wp2
              go_round
              case rel => exact ⟨c + 1, _, by omega, by go_num, rfl, Lib.hid (by rw [HSH.out]; exact HT3.out)⟩
              case measure => simp [intOf]; omega
          · have h8 : ¬ ((c : Int) < 8) := by omega
            have HT8 : Hid (t3 = str (Utf.sh r 8)) := Lib.hid (by rw [HT3.out, show c = 8 by omega])
            clear hc8 HT3 HQ hc
            clear HT8
            by_cases hr : r < 65536
            · have CF := fun wx => lfour r _ Utf.hex digits_small (by omega) wx
              have hw : Utf.way 0 r = Utf.four Utf.hex r := by unfold Utf.way; rw [if_neg (by omega), if_neg (by omega), if_pos (by omega)]; rfl
              rw [hw] at HRT hwl
              have hs2 := str_size (Utf.four Utf.hex r)
              have HAT := Lib.hid (show t ++ str (Utf.four Utf.hex r) = str (34 :: (ps l how (k + 1)).flatMap Prod.snd) by rw [HT.out, HRT.out, ← str_append]; rfl)
              generalize str (Utf.four Utf.hex r) = q4 at *
              have hno := no_over t q4 (by omega)
              have h65 : (r : Int) < 65536 := by omega
              have hr0 : (0 : Int) ≤ r := by omega
              clear hr hr1 HIR hw hs2 hwl
              generalize (r : Int) = ri at *
              go_wp2_with fail
              ((with_reducible refine (CF _).mono ?_); rintro x w9 ⟨rfl, b9⟩)
              go_wp2
              go_roundw
              case rel => exact ⟨k + 1, _, by omega, by omega, by go_num, rfl, HAT, up B1.out b9⟩
              case measure => simp [intOf]; omega
            · have CF := fun wx => lfour_at (55296 + ((r : Int) - 65536) / 1024) (55296 + (r - 65536) / 1024) (by omega) _ Utf.hex digits_small (by omega) wx
              have CG := fun wx => lfour_at (56320 + ((r : Int) - 65536) % 1024) (56320 + (r - 65536) % 1024) (by omega) _ Utf.hex digits_small (by omega) wx
              have hw : Utf.way 0 r = Utf.four Utf.hex (55296 + (r - 65536) / 1024) ++ Utf.four Utf.hex (56320 + (r - 65536) % 1024) := by unfold Utf.way; rw [if_neg (by omega), if_neg (by omega), if_neg (by omega)]; rfl
              rw [hw] at HRT hwl
              rw [List.length_append] at hwl
              have hs2 := str_size (Utf.four Utf.hex (55296 + (r - 65536) / 1024))
              have hs3 := str_size (Utf.four Utf.hex (56320 + (r - 65536) % 1024))
              have HAT := Lib.hid (show t ++ str (Utf.four Utf.hex (55296 + (r - 65536) / 1024)) ++ str (Utf.four Utf.hex (56320 + (r - 65536) % 1024)) = str (34 :: (ps l how (k + 1)).flatMap Prod.snd) by rw [HT.out, HRT.out, ← str_append, ← str_append]; simp)
              generalize str (Utf.four Utf.hex (55296 + (r - 65536) / 1024)) = q4 at *
              generalize str (Utf.four Utf.hex (56320 + (r - 65536) % 1024)) = q5 at *
              have hno := no_over t q4 (by omega)
              have hno2 := no_over (t ++ q4) q5 (by rw [ByteArray.size_append]; omega)
              have h65 : ¬ ((r : Int) < 65536) := by omega
              have hr2 : (r : Int) < 1114112 := by omega
              clear hr hr1 HIR hw hs2 hs3 hwl
              generalize (r : Int) = ri at *
              go_wp2_with fail
              ((with_reducible refine (CF _).mono ?_); rintro x w9 ⟨rfl, b9⟩)
              go_wp2_with fail
              ((with_reducible refine (CG _).mono ?_); rintro x w10 ⟨rfl, b10⟩)
              go_wp2
              go_roundw
              case rel => exact ⟨k + 1, _, by omega, by omega, by go_num, rfl, HAT, up (up B1.out b9) b10⟩
              case measure => simp [intOf]; omega
      · have hz2 : how.length ≠ 0 := fun e => hz (List.eq_nil_of_length_eq_zero e)
        have hz3 : 0 < (how.length : Int) := by omega
        have hK : kk how k = (how.getD (k % how.length) 0 % 4).toNat := by unfold kk; rw [if_neg hz]
        have hjl : k % how.length < how.length := Nat.mod_lt _ (by omega)
        have hj : (k : Int) % (how.length : Int) = ((k % how.length : Nat) : Int) := by omega
        have hbd2 := HB2.out (how.getD (k % how.length) 0) (by simp [List.getElem?_eq_getElem hjl])
        generalize k % how.length = j at *
        obtain ⟨a', c', e1, -, -, -, e5⟩ := HU.out.on HW.out
        injection e1 with e1 e2 e3
        subst e1 e3
        obtain ⟨b2, off2, rfl, hbl3, hcl2⟩ := e5 (by omega)
        have hce2 := hcl2 j hjl
        have CB := bring (how.getD j 0) 4 wr hbd2.1 hbd2.2 (by omega) (by omega)
        generalize how.getD j 0 = y at *
        have h4 : y % 4 = 0 ∨ y % 4 = 1 ∨ y % 4 = 2 ∨ y % 4 = 3 := by omega
        have hji : (j : Int) < how.length := by omega
        clear hz hcl2 e5 hbd2
        rcases h4 with h4 | h4 | h4 | h4
        · rw [h4] at CB hK
          rw [hK] at HRT hwl
          clear h4 hK
          have hwl : (Utf.way 0 r).length ≤ 12 := hwl
          have HRT : Hid ((ps l how (k + 1)).flatMap Prod.snd = (ps l how k).flatMap Prod.snd ++ Utf.way 0 r) := HRT
          go_wp2_with fail
          ((with_reducible refine CO.mono ?_); rintro x w' ⟨rfl, rfl⟩)
          go_wp2_with fail
          ((with_reducible refine CB.mono ?_); rintro x w' ⟨rfl, rfl⟩)
          go_wp2_with fail
          ((with_reducible refine (CP _).mono ?_); rintro x w' ⟨rfl, rfl⟩)
          go_wp2
          have B1 := Lib.hid (HW.out.alloc HW.out.size (.cells #[.string ⟨#[48, 49, 50, 51, 52, 53, 54, 55, 56, 57, 97, 98, 99, 100, 101, 102]⟩, .string ⟨#[48, 49, 50, 51, 52, 53, 54, 55, 56, 57, 65, 66, 67, 68, 69, 70]⟩] 9))
          go_loop [12, 13] (fun v i => ∃ (c : Nat) (t : ByteArray), c ≤ 8 ∧ i = .int .i64 c ∧ v = .string t ∧ Hid (t = str (Utf.sh r c))) (fun _ i => 8 - (intOf i).toNat)
          case atStart => exact ⟨0, _, by omega, rfl, rfl, Lib.hid (show (⟨#[]⟩ : ByteArray) = str [] by decide +kernel)⟩
          case round =>
            obtain ⟨c, t3, hc, rfl, rfl, HT3⟩ := hrel
            by_cases hc8 : c < 8
            · have sc := fun w => one_slice ⟨#[34, 92, 47, 8, 12, 10, 13, 9]⟩ Utf.CS rfl (by decide +kernel) c hc8 w
              have sd := fun w => one_slice ⟨#[34, 92, 47, 98, 102, 110, 114, 116]⟩ Utf.DS rfl (by decide +kernel) c hc8 w
              have hcq := HQ.out (Utf.CS.getD c 0) (lt_CS c)
              have hsz := str_size [Utf.CS.getD c 0]
              have hsz2 := str_size [Utf.DS.getD c 0]
              have hsh : Utf.sh r (c + 1) = if r = Utf.CS.getD c 0 then [92, Utf.DS.getD c 0] else Utf.sh r c := rfl
              have hap : (⟨#[92]⟩ : ByteArray) ++ str [Utf.DS.getD c 0] = str [92, Utf.DS.getD c 0] := by
                rw [show (⟨#[92]⟩ : ByteArray) = str [92] by decide +kernel, ← str_append]; rfl
              simp only [List.length_cons, List.length_nil] at hsz hsz2
              have hno := no_over ⟨#[92]⟩ (str [Utf.DS.getD c 0]) (by rw [hsz2]; decide)
              have HAP := Lib.hid hap
              clear hap
              have h8 : (c : Int) < 8 := by omega
              by_cases hrc : r = Utf.CS.getD c 0
              · rw [if_pos hrc] at hsh
                rw [decide_eq_true hrc] at hcq
                have HSH := Lib.hid hsh
                clear hsh hrc
                generalize str [Utf.CS.getD c 0] = q1 at *
                generalize str [Utf.DS.getD c 0] = q2 at *
                generalize str (Utf.enc r) = q at *
                go_wp2
                go_round
                case rel => exact ⟨c + 1, _, by omega, by go_num, rfl, Lib.hid (by rw [HSH.out]; exact HAP.out)⟩
                case measure => simp [intOf]; omega
              · rw [if_neg hrc] at hsh
                rw [decide_eq_false hrc] at hcq
                have HSH := Lib.hid hsh
                clear hsh hrc
                generalize str [Utf.CS.getD c 0] = q1 at *
                generalize str [Utf.DS.getD c 0] = q2 at *
                generalize str (Utf.enc r) = q at *
                go_wp2
                go_round
                case rel => exact ⟨c + 1, _, by omega, by go_num, rfl, Lib.hid (by rw [HSH.out]; exact HT3.out)⟩
                case measure => simp [intOf]; omega
            · have h8 : ¬ ((c : Int) < 8) := by omega
              have HT8 : Hid (t3 = str (Utf.sh r 8)) := Lib.hid (by rw [HT3.out, show c = 8 by omega])
              clear hc8 HT3 HQ hc
              clear HT8
              by_cases hr : r < 65536
              · have CF := fun wx => lfour r _ Utf.hex digits_small (by omega) wx
                have hw : Utf.way 0 r = Utf.four Utf.hex r := by unfold Utf.way; rw [if_neg (by omega), if_neg (by omega), if_pos (by omega)]; rfl
                rw [hw] at HRT hwl
                have hs2 := str_size (Utf.four Utf.hex r)
                have HAT := Lib.hid (show t ++ str (Utf.four Utf.hex r) = str (34 :: (ps l how (k + 1)).flatMap Prod.snd) by rw [HT.out, HRT.out, ← str_append]; rfl)
                generalize str (Utf.four Utf.hex r) = q4 at *
                have hno := no_over t q4 (by omega)
                have h65 : (r : Int) < 65536 := by omega
                have hr0 : (0 : Int) ≤ r := by omega
                clear hr hr1 HIR hw hs2 hwl
                generalize (r : Int) = ri at *
                go_wp2_with fail
                ((with_reducible refine (CF _).mono ?_); rintro x w9 ⟨rfl, b9⟩)
                go_wp2
                go_roundw
                case rel => exact ⟨k + 1, _, by omega, by omega, by go_num, rfl, HAT, up B1.out b9⟩
                case measure => simp [intOf]; omega
              · have CF := fun wx => lfour_at (55296 + ((r : Int) - 65536) / 1024) (55296 + (r - 65536) / 1024) (by omega) _ Utf.hex digits_small (by omega) wx
                have CG := fun wx => lfour_at (56320 + ((r : Int) - 65536) % 1024) (56320 + (r - 65536) % 1024) (by omega) _ Utf.hex digits_small (by omega) wx
                have hw : Utf.way 0 r = Utf.four Utf.hex (55296 + (r - 65536) / 1024) ++ Utf.four Utf.hex (56320 + (r - 65536) % 1024) := by unfold Utf.way; rw [if_neg (by omega), if_neg (by omega), if_neg (by omega)]; rfl
                rw [hw] at HRT hwl
                rw [List.length_append] at hwl
                have hs2 := str_size (Utf.four Utf.hex (55296 + (r - 65536) / 1024))
                have hs3 := str_size (Utf.four Utf.hex (56320 + (r - 65536) % 1024))
                have HAT := Lib.hid (show t ++ str (Utf.four Utf.hex (55296 + (r - 65536) / 1024)) ++ str (Utf.four Utf.hex (56320 + (r - 65536) % 1024)) = str (34 :: (ps l how (k + 1)).flatMap Prod.snd) by rw [HT.out, HRT.out, ← str_append, ← str_append]; simp)
                generalize str (Utf.four Utf.hex (55296 + (r - 65536) / 1024)) = q4 at *
                generalize str (Utf.four Utf.hex (56320 + (r - 65536) % 1024)) = q5 at *
                have hno := no_over t q4 (by omega)
                have hno2 := no_over (t ++ q4) q5 (by rw [ByteArray.size_append]; omega)
                have h65 : ¬ ((r : Int) < 65536) := by omega
                have hr2 : (r : Int) < 1114112 := by omega
                clear hr hr1 HIR hw hs2 hs3 hwl
                generalize (r : Int) = ri at *
                go_wp2_with fail
                ((with_reducible refine (CF _).mono ?_); rintro x w9 ⟨rfl, b9⟩)
                go_wp2_with fail
                ((with_reducible refine (CG _).mono ?_); rintro x w10 ⟨rfl, b10⟩)
                go_wp2
                go_roundw
                case rel => exact ⟨k + 1, _, by omega, by omega, by go_num, rfl, HAT, up (up B1.out b9) b10⟩
                case measure => simp [intOf]; omega
        · rw [h4] at CB hK
          rw [hK] at HRT hwl
          clear h4 hK
          have hwl : (Utf.way 1 r).length ≤ 12 := hwl
          have HRT : Hid ((ps l how (k + 1)).flatMap Prod.snd = (ps l how k).flatMap Prod.snd ++ Utf.way 1 r) := HRT
          go_wp2_with fail
          ((with_reducible refine CO.mono ?_); rintro x w' ⟨rfl, rfl⟩)
          go_wp2_with fail
          ((with_reducible refine CB.mono ?_); rintro x w' ⟨rfl, rfl⟩)
          go_wp2_with fail
          ((with_reducible refine (CP _).mono ?_); rintro x w' ⟨rfl, rfl⟩)
          go_wp2
          have B1 := Lib.hid (HW.out.alloc HW.out.size (.cells #[.string ⟨#[48, 49, 50, 51, 52, 53, 54, 55, 56, 57, 97, 98, 99, 100, 101, 102]⟩, .string ⟨#[48, 49, 50, 51, 52, 53, 54, 55, 56, 57, 65, 66, 67, 68, 69, 70]⟩] 9))
          go_loop [12, 13] (fun v i => ∃ (c : Nat) (t : ByteArray), c ≤ 8 ∧ i = .int .i64 c ∧ v = .string t ∧ Hid (t = str (Utf.sh r c))) (fun _ i => 8 - (intOf i).toNat)
          case atStart => exact ⟨0, _, by omega, rfl, rfl, Lib.hid (show (⟨#[]⟩ : ByteArray) = str [] by decide +kernel)⟩
          case round =>
            obtain ⟨c, t3, hc, rfl, rfl, HT3⟩ := hrel
            by_cases hc8 : c < 8
            · have sc := fun w => one_slice ⟨#[34, 92, 47, 8, 12, 10, 13, 9]⟩ Utf.CS rfl (by decide +kernel) c hc8 w
              have sd := fun w => one_slice ⟨#[34, 92, 47, 98, 102, 110, 114, 116]⟩ Utf.DS rfl (by decide +kernel) c hc8 w
              have hcq := HQ.out (Utf.CS.getD c 0) (lt_CS c)
              have hsz := str_size [Utf.CS.getD c 0]
              have hsz2 := str_size [Utf.DS.getD c 0]
              have hsh : Utf.sh r (c + 1) = if r = Utf.CS.getD c 0 then [92, Utf.DS.getD c 0] else Utf.sh r c := rfl
              have hap : (⟨#[92]⟩ : ByteArray) ++ str [Utf.DS.getD c 0] = str [92, Utf.DS.getD c 0] := by
                rw [show (⟨#[92]⟩ : ByteArray) = str [92] by decide +kernel, ← str_append]; rfl
              simp only [List.length_cons, List.length_nil] at hsz hsz2
              have hno := no_over ⟨#[92]⟩ (str [Utf.DS.getD c 0]) (by rw [hsz2]; decide)
              have HAP := Lib.hid hap
              clear hap
              have h8 : (c : Int) < 8 := by omega
              by_cases hrc : r = Utf.CS.getD c 0
              · rw [if_pos hrc] at hsh
                rw [decide_eq_true hrc] at hcq
                have HSH := Lib.hid hsh
                clear hsh hrc
                generalize str [Utf.CS.getD c 0] = q1 at *
                generalize str [Utf.DS.getD c 0] = q2 at *
                generalize str (Utf.enc r) = q at *
                go_wp2
                go_round
                case rel => exact ⟨c + 1, _, by omega, by go_num, rfl, Lib.hid (by rw [HSH.out]; exact HAP.out)⟩
                case measure => simp [intOf]; omega
              · rw [if_neg hrc] at hsh
                rw [decide_eq_false hrc] at hcq
                have HSH := Lib.hid hsh
                clear hsh hrc
                generalize str [Utf.CS.getD c 0] = q1 at *
                generalize str [Utf.DS.getD c 0] = q2 at *
                generalize str (Utf.enc r) = q at *
                go_wp2
                go_round
                case rel => exact ⟨c + 1, _, by omega, by go_num, rfl, Lib.hid (by rw [HSH.out]; exact HT3.out)⟩
                case measure => simp [intOf]; omega
            · have h8 : ¬ ((c : Int) < 8) := by omega
              have HT8 : Hid (t3 = str (Utf.sh r 8)) := Lib.hid (by rw [HT3.out, show c = 8 by omega])
              clear hc8 HT3 HQ hc
              clear HT8
              by_cases hr : r < 65536
              · have CF := fun wx => lfour r _ Utf.hexC digits_big (by omega) wx
                have hw : Utf.way 1 r = Utf.four Utf.hexC r := by unfold Utf.way; rw [if_neg (by omega), if_neg (by omega), if_pos (by omega)]; rfl
                rw [hw] at HRT hwl
                have hs2 := str_size (Utf.four Utf.hexC r)
                have HAT := Lib.hid (show t ++ str (Utf.four Utf.hexC r) = str (34 :: (ps l how (k + 1)).flatMap Prod.snd) by rw [HT.out, HRT.out, ← str_append]; rfl)
                generalize str (Utf.four Utf.hexC r) = q4 at *
                have hno := no_over t q4 (by omega)
                have h65 : (r : Int) < 65536 := by omega
                have hr0 : (0 : Int) ≤ r := by omega
                clear hr hr1 HIR hw hs2 hwl
                generalize (r : Int) = ri at *
                go_wp2_with fail
                ((with_reducible refine (CF _).mono ?_); rintro x w9 ⟨rfl, b9⟩)
                go_wp2
                go_roundw
                case rel => exact ⟨k + 1, _, by omega, by omega, by go_num, rfl, HAT, up B1.out b9⟩
                case measure => simp [intOf]; omega
              · have CF := fun wx => lfour_at (55296 + ((r : Int) - 65536) / 1024) (55296 + (r - 65536) / 1024) (by omega) _ Utf.hexC digits_big (by omega) wx
                have CG := fun wx => lfour_at (56320 + ((r : Int) - 65536) % 1024) (56320 + (r - 65536) % 1024) (by omega) _ Utf.hexC digits_big (by omega) wx
                have hw : Utf.way 1 r = Utf.four Utf.hexC (55296 + (r - 65536) / 1024) ++ Utf.four Utf.hexC (56320 + (r - 65536) % 1024) := by unfold Utf.way; rw [if_neg (by omega), if_neg (by omega), if_neg (by omega)]; rfl
                rw [hw] at HRT hwl
                rw [List.length_append] at hwl
                have hs2 := str_size (Utf.four Utf.hexC (55296 + (r - 65536) / 1024))
                have hs3 := str_size (Utf.four Utf.hexC (56320 + (r - 65536) % 1024))
                have HAT := Lib.hid (show t ++ str (Utf.four Utf.hexC (55296 + (r - 65536) / 1024)) ++ str (Utf.four Utf.hexC (56320 + (r - 65536) % 1024)) = str (34 :: (ps l how (k + 1)).flatMap Prod.snd) by rw [HT.out, HRT.out, ← str_append, ← str_append]; simp)
                generalize str (Utf.four Utf.hexC (55296 + (r - 65536) / 1024)) = q4 at *
                generalize str (Utf.four Utf.hexC (56320 + (r - 65536) % 1024)) = q5 at *
                have hno := no_over t q4 (by omega)
                have hno2 := no_over (t ++ q4) q5 (by rw [ByteArray.size_append]; omega)
                have h65 : ¬ ((r : Int) < 65536) := by omega
                have hr2 : (r : Int) < 1114112 := by omega
                clear hr hr1 HIR hw hs2 hs3 hwl
                generalize (r : Int) = ri at *
                go_wp2_with fail
                ((with_reducible refine (CF _).mono ?_); rintro x w9 ⟨rfl, b9⟩)
                go_wp2_with fail
                ((with_reducible refine (CG _).mono ?_); rintro x w10 ⟨rfl, b10⟩)
                go_wp2
                go_roundw
                case rel => exact ⟨k + 1, _, by omega, by omega, by go_num, rfl, HAT, up (up B1.out b9) b10⟩
                case measure => simp [intOf]; omega
        · rw [h4] at CB hK
          rw [hK] at HRT hwl
          clear h4 hK
          have hwl : (Utf.way 2 r).length ≤ 12 := hwl
          have HRT : Hid ((ps l how (k + 1)).flatMap Prod.snd = (ps l how k).flatMap Prod.snd ++ Utf.way 2 r) := HRT
          go_wp2_with fail
          ((with_reducible refine CO.mono ?_); rintro x w' ⟨rfl, rfl⟩)
          go_wp2_with fail
          ((with_reducible refine CB.mono ?_); rintro x w' ⟨rfl, rfl⟩)
          go_wp2_with fail
          ((with_reducible refine (CP _).mono ?_); rintro x w' ⟨rfl, rfl⟩)
          go_wp2
          have B1 := Lib.hid (HW.out.alloc HW.out.size (.cells #[.string ⟨#[48, 49, 50, 51, 52, 53, 54, 55, 56, 57, 97, 98, 99, 100, 101, 102]⟩, .string ⟨#[48, 49, 50, 51, 52, 53, 54, 55, 56, 57, 65, 66, 67, 68, 69, 70]⟩] 9))
          go_loop [12, 13] (fun v i => ∃ (c : Nat) (t : ByteArray), c ≤ 8 ∧ i = .int .i64 c ∧ v = .string t ∧ Hid (t = str (Utf.sh r c))) (fun _ i => 8 - (intOf i).toNat)
          case atStart => exact ⟨0, _, by omega, rfl, rfl, Lib.hid (show (⟨#[]⟩ : ByteArray) = str [] by decide +kernel)⟩
          case round =>
            obtain ⟨c, t3, hc, rfl, rfl, HT3⟩ := hrel
            by_cases hc8 : c < 8
            · have sc := fun w => one_slice ⟨#[34, 92, 47, 8, 12, 10, 13, 9]⟩ Utf.CS rfl (by decide +kernel) c hc8 w
              have sd := fun w => one_slice ⟨#[34, 92, 47, 98, 102, 110, 114, 116]⟩ Utf.DS rfl (by decide +kernel) c hc8 w
              have hcq := HQ.out (Utf.CS.getD c 0) (lt_CS c)
              have hsz := str_size [Utf.CS.getD c 0]
              have hsz2 := str_size [Utf.DS.getD c 0]
              have hsh : Utf.sh r (c + 1) = if r = Utf.CS.getD c 0 then [92, Utf.DS.getD c 0] else Utf.sh r c := rfl
              have hap : (⟨#[92]⟩ : ByteArray) ++ str [Utf.DS.getD c 0] = str [92, Utf.DS.getD c 0] := by
                rw [show (⟨#[92]⟩ : ByteArray) = str [92] by decide +kernel, ← str_append]; rfl
              simp only [List.length_cons, List.length_nil] at hsz hsz2
              have hno := no_over ⟨#[92]⟩ (str [Utf.DS.getD c 0]) (by rw [hsz2]; decide)
              have HAP := Lib.hid hap
              clear hap
              have h8 : (c : Int) < 8 := by omega
              by_cases hrc : r = Utf.CS.getD c 0
              · rw [if_pos hrc] at hsh
                rw [decide_eq_true hrc] at hcq
                have HSH := Lib.hid hsh
                clear hsh hrc
                generalize str [Utf.CS.getD c 0] = q1 at *
                generalize str [Utf.DS.getD c 0] = q2 at *
                generalize str (Utf.enc r) = q at *
                go_wp2
                go_round
                case rel => exact ⟨c + 1, _, by omega, by go_num, rfl, Lib.hid (by rw [HSH.out]; exact HAP.out)⟩
                case measure => simp [intOf]; omega
              · rw [if_neg hrc] at hsh
                rw [decide_eq_false hrc] at hcq
                have HSH := Lib.hid hsh
                clear hsh hrc
                generalize str [Utf.CS.getD c 0] = q1 at *
                generalize str [Utf.DS.getD c 0] = q2 at *
                generalize str (Utf.enc r) = q at *
                go_wp2
                go_round
                case rel => exact ⟨c + 1, _, by omega, by go_num, rfl, Lib.hid (by rw [HSH.out]; exact HT3.out)⟩
                case measure => simp [intOf]; omega
            · have h8 : ¬ ((c : Int) < 8) := by omega
              have HT8 : Hid (t3 = str (Utf.sh r 8)) := Lib.hid (by rw [HT3.out, show c = 8 by omega])
              clear hc8 HT3 HQ hc
              clear HT8
              by_cases hr : 32 ≤ r ∧ r ≠ 34 ∧ r ≠ 92
              · have hw : Utf.way 2 r = Utf.enc r := by unfold Utf.way; rw [if_neg (by omega), if_pos (by omega)]
                rw [hw] at HRT hwl
                have HAT := Lib.hid (show t ++ str (Utf.enc r) = str (34 :: (ps l how (k + 1)).flatMap Prod.snd) by rw [HT.out, HRT.out, ← str_append]; rfl)
                generalize str (Utf.enc r) = q4 at *
                have hno := no_over t q4 (by omega)
                have h32 : (32 : Int) ≤ r := by omega
                have h34 : ((r : Int) != 34) = true := by rw [bne_iff_ne]; omega
                have h92 : ((r : Int) != 92) = true := by rw [bne_iff_ne]; omega
                clear hr hr1 HIR hw hwl
                generalize (r : Int) = ri at *
                go_wp2
                go_roundw
                case rel => exact ⟨k + 1, _, by omega, by omega, by go_num, rfl, HAT, B1.out⟩
                case measure => simp [intOf]; omega
              · rcases (show r < 32 ∨ r = 34 ∨ r = 92 by omega) with h | h | h
                · have CF := fun wx => lfour r _ Utf.hex digits_small (by omega) wx
                  have hw : Utf.way 2 r = Utf.four Utf.hex r := by unfold Utf.way; rw [if_neg (by omega), if_neg (by omega), if_pos (by omega)]; rfl
                  rw [hw] at HRT hwl
                  have hs2 := str_size (Utf.four Utf.hex r)
                  have HAT := Lib.hid (show t ++ str (Utf.four Utf.hex r) = str (34 :: (ps l how (k + 1)).flatMap Prod.snd) by rw [HT.out, HRT.out, ← str_append]; rfl)
                  generalize str (Utf.four Utf.hex r) = q4 at *
                  have hno := no_over t q4 (by omega)
                  have h65 : (r : Int) < 65536 := by omega
                  have hr0 : (0 : Int) ≤ r := by omega
                  have h32 : ¬ ((32 : Int) ≤ r) := by omega
                  clear h
                  clear hr hr1 HIR hw hs2 hwl
                  generalize (r : Int) = ri at *
                  go_wp2_with fail
                  ((with_reducible refine (CF _).mono ?_); rintro x w9 ⟨rfl, b9⟩)
                  go_wp2
                  go_roundw
                  case rel => exact ⟨k + 1, _, by omega, by omega, by go_num, rfl, HAT, up B1.out b9⟩
                  case measure => simp [intOf]; omega
                · have CF := fun wx => lfour_at 34 r (by omega) _ Utf.hex digits_small (by omega) wx
                  have hw : Utf.way 2 r = Utf.four Utf.hex r := by unfold Utf.way; rw [if_neg (by omega), if_neg (by omega), if_pos (by omega)]; rfl
                  rw [hw] at HRT hwl
                  have hs2 := str_size (Utf.four Utf.hex r)
                  have HAT := Lib.hid (show t ++ str (Utf.four Utf.hex r) = str (34 :: (ps l how (k + 1)).flatMap Prod.snd) by rw [HT.out, HRT.out, ← str_append]; rfl)
                  generalize str (Utf.four Utf.hex r) = q4 at *
                  have hno := no_over t q4 (by omega)
                  have h65 : (r : Int) < 65536 := by omega
                  have hr0 : (0 : Int) ≤ r := by omega
                  have h34 : (r : Int) = 34 := by omega
                  clear h
                  clear hr hr1 HIR hw hs2 hwl
                  generalize (r : Int) = ri at *
                  go_wp2_with fail
                  ((with_reducible refine (CF _).mono ?_); rintro x w9 ⟨rfl, b9⟩)
                  go_wp2
                  go_roundw
                  case rel => exact ⟨k + 1, _, by omega, by omega, by go_num, rfl, HAT, up B1.out b9⟩
                  case measure => simp [intOf]; omega
                · have CF := fun wx => lfour_at 92 r (by omega) _ Utf.hex digits_small (by omega) wx
                  have hw : Utf.way 2 r = Utf.four Utf.hex r := by unfold Utf.way; rw [if_neg (by omega), if_neg (by omega), if_pos (by omega)]; rfl
                  rw [hw] at HRT hwl
                  have hs2 := str_size (Utf.four Utf.hex r)
                  have HAT := Lib.hid (show t ++ str (Utf.four Utf.hex r) = str (34 :: (ps l how (k + 1)).flatMap Prod.snd) by rw [HT.out, HRT.out, ← str_append]; rfl)
                  generalize str (Utf.four Utf.hex r) = q4 at *
                  have hno := no_over t q4 (by omega)
                  have h65 : (r : Int) < 65536 := by omega
                  have hr0 : (0 : Int) ≤ r := by omega
                  have h92 : (r : Int) = 92 := by omega
                  clear h
                  clear hr hr1 HIR hw hs2 hwl
                  generalize (r : Int) = ri at *
                  go_wp2_with fail
                  ((with_reducible refine (CF _).mono ?_); rintro x w9 ⟨rfl, b9⟩)
                  go_wp2
                  go_roundw
                  case rel => exact ⟨k + 1, _, by omega, by omega, by go_num, rfl, HAT, up B1.out b9⟩
                  case measure => simp [intOf]; omega
        · rw [h4] at CB hK
          rw [hK] at HRT hwl
          clear h4 hK
          have hwl : (Utf.way 3 r).length ≤ 12 := hwl
          have HRT : Hid ((ps l how (k + 1)).flatMap Prod.snd = (ps l how k).flatMap Prod.snd ++ Utf.way 3 r) := HRT
          go_wp2_with fail
          ((with_reducible refine CO.mono ?_); rintro x w' ⟨rfl, rfl⟩)
          go_wp2_with fail
          ((with_reducible refine CB.mono ?_); rintro x w' ⟨rfl, rfl⟩)
          go_wp2_with fail
          ((with_reducible refine (CP _).mono ?_); rintro x w' ⟨rfl, rfl⟩)
          go_wp2
          have B1 := Lib.hid (HW.out.alloc HW.out.size (.cells #[.string ⟨#[48, 49, 50, 51, 52, 53, 54, 55, 56, 57, 97, 98, 99, 100, 101, 102]⟩, .string ⟨#[48, 49, 50, 51, 52, 53, 54, 55, 56, 57, 65, 66, 67, 68, 69, 70]⟩] 9))
          go_loop [12, 13] (fun v i => ∃ (c : Nat) (t : ByteArray), c ≤ 8 ∧ i = .int .i64 c ∧ v = .string t ∧ Hid (t = str (Utf.sh r c))) (fun _ i => 8 - (intOf i).toNat)
          case atStart => exact ⟨0, _, by omega, rfl, rfl, Lib.hid (show (⟨#[]⟩ : ByteArray) = str [] by decide +kernel)⟩
          case round =>
            obtain ⟨c, t3, hc, rfl, rfl, HT3⟩ := hrel
            by_cases hc8 : c < 8
            · have sc := fun w => one_slice ⟨#[34, 92, 47, 8, 12, 10, 13, 9]⟩ Utf.CS rfl (by decide +kernel) c hc8 w
              have sd := fun w => one_slice ⟨#[34, 92, 47, 98, 102, 110, 114, 116]⟩ Utf.DS rfl (by decide +kernel) c hc8 w
              have hcq := HQ.out (Utf.CS.getD c 0) (lt_CS c)
              have hsz := str_size [Utf.CS.getD c 0]
              have hsz2 := str_size [Utf.DS.getD c 0]
              have hsh : Utf.sh r (c + 1) = if r = Utf.CS.getD c 0 then [92, Utf.DS.getD c 0] else Utf.sh r c := rfl
              have hap : (⟨#[92]⟩ : ByteArray) ++ str [Utf.DS.getD c 0] = str [92, Utf.DS.getD c 0] := by
                rw [show (⟨#[92]⟩ : ByteArray) = str [92] by decide +kernel, ← str_append]; rfl
              simp only [List.length_cons, List.length_nil] at hsz hsz2
              have hno := no_over ⟨#[92]⟩ (str [Utf.DS.getD c 0]) (by rw [hsz2]; decide)
              have HAP := Lib.hid hap
              clear hap
              have h8 : (c : Int) < 8 := by omega
              by_cases hrc : r = Utf.CS.getD c 0
              · rw [if_pos hrc] at hsh
                rw [decide_eq_true hrc] at hcq
                have HSH := Lib.hid hsh
                clear hsh hrc
                generalize str [Utf.CS.getD c 0] = q1 at *
                generalize str [Utf.DS.getD c 0] = q2 at *
                generalize str (Utf.enc r) = q at *
                go_wp2
                go_round
                case rel => exact ⟨c + 1, _, by omega, by go_num, rfl, Lib.hid (by rw [HSH.out]; exact HAP.out)⟩
                case measure => simp [intOf]; omega
              · rw [if_neg hrc] at hsh
                rw [decide_eq_false hrc] at hcq
                have HSH := Lib.hid hsh
                clear hsh hrc
                generalize str [Utf.CS.getD c 0] = q1 at *
                generalize str [Utf.DS.getD c 0] = q2 at *
                generalize str (Utf.enc r) = q at *
                go_wp2
                go_round
                case rel => exact ⟨c + 1, _, by omega, by go_num, rfl, Lib.hid (by rw [HSH.out]; exact HT3.out)⟩
                case measure => simp [intOf]; omega
            · have h8 : ¬ ((c : Int) < 8) := by omega
              have HT8 : Hid (t3 = str (Utf.sh r 8)) := Lib.hid (by rw [HT3.out, show c = 8 by omega])
              clear hc8 HT3 HQ hc
              by_cases hr : Utf.sh r 8 ≠ []
              · have hw : Utf.way 3 r = Utf.sh r 8 := by unfold Utf.way; rw [if_pos ⟨rfl, hr⟩]
                rw [hw] at HRT hwl
                have hsb := (Utf.spell_sh r 8 (by omega) hr).byte
                have hs2 := str_size (Utf.sh r 8)
                have hb3 : bl t3 ≠ [] := by rw [HT8.out, bl_str _ hsb]; exact hr
                have hq2 : t3.toList.isEmpty = false := by rw [bl_empty]; exact decide_eq_false hb3
                have hq3 : ¬ t3.toList = [] := by simpa using hq2
                have HAT := Lib.hid (show t ++ t3 = str (34 :: (ps l how (k + 1)).flatMap Prod.snd) by rw [HT.out, HT8.out, HRT.out, ← str_append]; rfl)
                have hno := no_over t t3 (by rw [HT8.out]; omega)
                clear hr hr1 HIR hw hwl hb3 hsb hs2 HT8
                generalize (r : Int) = ri at *
                go_wp2
                go_roundw
                case rel => exact ⟨k + 1, _, by omega, by omega, by go_num, rfl, HAT, B1.out⟩
                case measure => simp [intOf]; omega
              · have hsh : Utf.sh r 8 = [] := Classical.byContradiction hr
                have hn : r ≠ 34 ∧ r ≠ 92 := ⟨fun e => by rw [e] at hsh; revert hsh; decide, fun e => by rw [e] at hsh; revert hsh; decide⟩
                have hb3 : bl t3 = [] := by rw [HT8.out, hsh]; rfl
                have hq2 : t3.toList.isEmpty = true := by rw [bl_empty, hb3]; rfl
                have hq3 : t3.toList = [] := by simpa using hq2
                clear hb3 HT8
                clear hr
                by_cases hr : 32 ≤ r
                · have hw : Utf.way 3 r = Utf.enc r := by unfold Utf.way; rw [if_neg (fun e => e.2 hsh), if_pos (by omega)]
                  rw [hw] at HRT hwl
                  have HAT := Lib.hid (show t ++ str (Utf.enc r) = str (34 :: (ps l how (k + 1)).flatMap Prod.snd) by rw [HT.out, HRT.out, ← str_append]; rfl)
                  generalize str (Utf.enc r) = q4 at *
                  have hno := no_over t q4 (by omega)
                  have h32 : (32 : Int) ≤ r := by omega
                  have h34 : ((r : Int) != 34) = true := by rw [bne_iff_ne]; omega
                  have h92 : ((r : Int) != 92) = true := by rw [bne_iff_ne]; omega
                  clear hr hr1 HIR hw hwl
                  generalize (r : Int) = ri at *
                  go_wp2
                  go_roundw
                  case rel => exact ⟨k + 1, _, by omega, by omega, by go_num, rfl, HAT, B1.out⟩
                  case measure => simp [intOf]; omega
                · have CF := fun wx => lfour r _ Utf.hexC digits_big (by omega) wx
                  have hw : Utf.way 3 r = Utf.four Utf.hexC r := by unfold Utf.way; rw [if_neg (fun e => e.2 hsh), if_neg (by omega), if_pos (by omega)]; rfl
                  rw [hw] at HRT hwl
                  have hs2 := str_size (Utf.four Utf.hexC r)
                  have HAT := Lib.hid (show t ++ str (Utf.four Utf.hexC r) = str (34 :: (ps l how (k + 1)).flatMap Prod.snd) by rw [HT.out, HRT.out, ← str_append]; rfl)
                  generalize str (Utf.four Utf.hexC r) = q4 at *
                  have hno := no_over t q4 (by omega)
                  have h65 : (r : Int) < 65536 := by omega
                  have hr0 : (0 : Int) ≤ r := by omega
                  have h32 : ¬ ((32 : Int) ≤ r) := by omega
                  clear hn hsh
                  clear hr hr1 HIR hw hs2 hwl
                  generalize (r : Int) = ri at *
                  go_wp2_with fail
                  ((with_reducible refine (CF _).mono ?_); rintro x w9 ⟨rfl, b9⟩)
                  go_wp2
                  go_roundw
                  case rel => exact ⟨k + 1, _, by omega, by omega, by go_num, rfl, HAT, up B1.out b9⟩
                  case measure => simp [intOf]; omega
    · have hkn : k = min l.length 60 := by omega
      have hts : t.size ≤ 721 := by
        rw [HT.out, str_size, List.length_cons]
        have := ps_len l how k
        omega
      have hno := no_over t ⟨#[34]⟩ (by rw [show (⟨#[34]⟩ : ByteArray).size = 1 from rfl]; omega)
      have HE := Lib.hid (show t ++ ⟨#[34]⟩ = str (lit l how) by
        rw [HT.out, show (⟨#[34]⟩ : ByteArray) = str [34] by decide +kernel, ← str_append, hkn]; rfl)
      clear hkn hts
      by_cases h1 : k < l.length
      · have h1' : (k : Int) < l.length := by omega
        have h2' : ¬ ((k : Int) < 60) := by omega
        go_wp2
        go_ret
        exact ⟨congrArg (fun z => Ending.returned (.string z)) HE.out, HW.out⟩
      · have h1' : ¬ ((k : Int) < l.length) := by omega
        go_wp2
        go_ret
        exact ⟨congrArg (fun z => Ending.returned (.string z)) HE.out, HW.out⟩
end Go.Proofs.YtgjpjimpkdmbcaaDoor
