/- The reference's escape. -/
import Derived.Test.YtpmfalcmlkcafaaDoorPart
import Derived.Test.YtpmfalcmlkcafaaDoorSpelt
namespace Go.Proofs.YtpmfalcmlkcafaaDoor
open Go.RowKit
set_option linter.unusedVariables false

def rtrip (r n e : Nat) : Ending := .returned (.tuple #[.string (if e = 0 then str (Utf.enc r) else ⟨#[]⟩), .int .i64 (n : Nat), .int .i64 (e : Nat)])
theorem rtrip_ok (r n : Nat) : rtrip r n 0 = .returned (.tuple #[.string (str (Utf.enc r)), .int .i64 (n : Nat), .int .i64 0]) := rfl
theorem rtrip_no (n e : Nat) (h : e ≠ 0) : rtrip 0 n e = .returned (.tuple #[.string ⟨#[]⟩, .int .i64 (n : Nat), .int .i64 (e : Nat)]) := by
  unfold rtrip; rw [if_neg h]
theorem ds_run (k : Nat) (h : k < 8) (w : World) : (Instr.index 9 (.string ⟨#[34, 92, 47, 98, 102, 110, 114, 116]⟩) (.int .i64 (k : Int))).run Tryd.prog w = .ok (.int .u8 (Utf.DS.getD k 0 : Nat)) w := by
  rcases (show k = 0 ∨ k = 1 ∨ k = 2 ∨ k = 3 ∨ k = 4 ∨ k = 5 ∨ k = 6 ∨ k = 7 by omega) with rfl | rfl | rfl | rfl | rfl | rfl | rfl | rfl
  all_goals rfl
theorem said_none (c : Nat) (h : ∀ j, j < 8 → c ≠ Utf.DS.getD j 0) : Utf.said c = 0 := by
  have h0 := h 0 (by omega)
  have h1 := h 1 (by omega)
  have h2 := h 2 (by omega)
  have h3 := h 3 (by omega)
  have h4 := h 4 (by omega)
  have h5 := h 5 (by omega)
  have h6 := h 6 (by omega)
  have h7 := h 7 (by omega)
  simp [Utf.DS] at h0 h1 h2 h3 h4 h5 h6 h7
  unfold Utf.said
  rw [if_neg h0, if_neg h1, if_neg h2, if_neg h3, if_neg h4, if_neg h5, if_neg h6, if_neg h7]
theorem said_at (k : Nat) (h : k < 8) : Utf.said (Utf.DS.getD k 0) = Utf.CS.getD k 0 ∧ Utf.CS.getD k 0 ≠ 0 ∧ Utf.CS.getD k 0 < 128 ∧ Utf.DS.getD k 0 ≠ 117 := by
  rcases (show k = 0 ∨ k = 1 ∨ k = 2 ∨ k = 3 ∨ k = 4 ∨ k = 5 ∨ k = 6 ∨ k = 7 by omega) with rfl | rfl | rfl | rfl | rfl | rfl | rfl | rfl
  all_goals decide
theorem cs_slice (c : Nat) (h : c < 8) (w : World) :
    (Instr.slice 9 (.string ⟨#[34, 92, 47, 8, 12, 10, 13, 9]⟩) (some (.int .i64 (c : Nat))) (some (.int .i64 ((c : Int) + 1))) none).run Tryd.prog w = .ok (.string (str [Utf.CS.getD c 0])) w := by
  rcases (show c = 0 ∨ c = 1 ∨ c = 2 ∨ c = 3 ∨ c = 4 ∨ c = 5 ∨ c = 6 ∨ c = 7 by omega) with rfl | rfl | rfl | rfl | rfl | rfl | rfl | rfl
  all_goals
    rw [run_slice_string_if w 9 _ .i64 .i64 _ _ Tryd.underlying9, if_pos (by decide), if_pos (by decide)]
    congr 2
theorem pu_run (k x : Nat) (h : k = 6 ∧ x = 92 ∨ k = 7 ∧ x = 117) (w : World) : (Instr.index 9 (.string ⟨#[92, 117]⟩) (.int .i64 ((k : Int) - 6))).run Tryd.prog w = .ok (.int .u8 (x : Int)) w := by
  rcases h with ⟨rfl, rfl⟩ | ⟨rfl, rfl⟩
  all_goals rfl
set_option maxHeartbeats 4000000 in
set_option maxRecDepth 100000 in
theorem rescape (s : ByteArray) (w : World) (hm : s.size ≤ maxLen) (r n e : Nat) (hR : Utf.esc (bl s) = (r, n, e)) :
    Calls Tryd.prog 20 #[.string s] w fun x w' => x = rtrip r n e ∧ Below w.heap.size w w' := by
  unfold maxLen at hm
  by_cases h2 : s.size < 2
  · unfold Utf.esc at hR
    rw [bl_length, if_pos h2] at hR
    simp only [Prod.mk.injEq] at hR
    obtain ⟨rfl, rfl, rfl⟩ := hR
    have h2' : (s.size : Int) < 2 := by omega
    clear h2
    go_enter Tryd.func20, Tryd.ntmps20
    go_wp2
    go_ret3
    exact ⟨rfl, Below.refl _ _⟩
  · have h2' : ¬ ((s.size : Int) < 2) := by omega
    have h1 : (1 : Int) < s.size := by omega
    have hlt1 : 1 < s.size := by omega
    have hc := bl_at s 1 hlt1
    have hcb := Utf.getD_byte (bl_byte s) 1
    have HR := Lib.hid hR
    unfold Utf.esc at hR
    rw [bl_length, if_neg h2] at hR
    generalize (bl s).getD 1 0 = c at *
    have HR2 := Lib.hid hR
    clear hR h2
    go_enter Tryd.func20, Tryd.ntmps20
    go_wp2
    go_loopw [5] (fun i wr => ∃ k : Nat, k ≤ 8 ∧ i = .int .i64 k ∧ (∀ j, j < k → c ≠ Utf.DS.getD j 0) ∧ Below w.heap.size w wr) (fun i _ => 8 - (intOf i).toNat)
    case atStart => exact ⟨0, by omega, rfl, by intro j hj; omega, Below.refl _ _⟩
    case round =>
      obtain ⟨k, hk, rfl, hnot, hb⟩ := hrel
      have HB := Lib.hid hb
      have HN := Lib.hid hnot
      clear hb hnot
      by_cases hk8 : k < 8
      · have hki : (k : Int) < 8 := by omega
        have hd := ds_run k hk8
        have hsl := cs_slice k hk8
        obtain ⟨s1, s2, s3, s4⟩ := said_at k hk8
        have hdb : Utf.DS.getD k 0 < 256 := by
          rcases (show k = 0 ∨ k = 1 ∨ k = 2 ∨ k = 3 ∨ k = 4 ∨ k = 5 ∨ k = 6 ∨ k = 7 by omega) with rfl | rfl | rfl | rfl | rfl | rfl | rfl | rfl
          all_goals decide
        by_cases he : c = Utf.DS.getD k 0
        · rw [he] at HR2 hc
          have hr := HR2.out
          rw [if_neg s4, s1, if_neg s2] at hr
          simp only [Prod.mk.injEq] at hr
          obtain ⟨rfl, rfl, rfl⟩ := hr
          have HE := Lib.hid (Utf.enc_low _ s3)
          generalize Utf.DS.getD k 0 = d at *
          have hdd : ((d : Int) == d) = true := by simp
          clear he s1 s2 s3 s4
          go_wp2
          go_quiet (fail)
          go_wp2
          go_ret3
          exact ⟨by rw [rtrip_ok, HE.out]; rfl, below_drewN HB.out _⟩
        · obtain ⟨d, hde⟩ : ∃ d, Utf.DS.getD k 0 = d := ⟨_, rfl⟩
          rw [hde] at hd he hdb
          have HD := Lib.hid hde
          clear hde s1 s2 s3 s4 hsl
          have hdd : ((c : Int) == d) = false := by rw [beq_eq_false_iff_ne]; omega
          have HE := Lib.hid he
          clear he
          go_wp2
          go_quiet (fail)
          go_wp2
          go_roundw
          case rel =>
            exact ⟨k + 1, by omega, by go_num, fun j hj => by
              rcases Nat.lt_or_ge j k with h | h
              · exact HN.out j h
              · rw [show j = k by omega, HD.out]; exact HE.out, below_drewN HB.out _⟩
          case measure => simp [intOf]; omega
      · have hki : ¬ ((k : Int) < 8) := by omega
        have hsd := said_none c fun j hj => HN.out j (by omega)
        have hr := HR2.out
        by_cases h117 : c = 117
        · rw [if_pos h117] at hr
          have hf := Utf.hx_first ((bl s).drop 2)
          have hl := Utf.hx_len false ((bl s).drop 2)
          have CH := fun wx => rhalf (s.extract 2 s.size) false wx (by rw [ByteArray.size_extract]; unfold maxLen; omega) (Utf.hx false ((bl s).drop 2)) (by rw [bl_from])
          obtain ⟨⟨n1, e1⟩, hx1⟩ : ∃ p, Utf.hx false ((bl s).drop 2) = p := ⟨_, rfl⟩
          rw [hx1] at hr hf hl CH
          simp only [tup] at hr hf hl CH
          have hcc : ((c : Int) != 117) = false := by rw [h117]; rfl
          clear hsd hx1
          by_cases he1 : e1 = 0
          · rw [if_neg (by omega)] at hr
            have hf2 := hf he1
            have hl2 := hl he1
            rw [he1] at CH
            by_cases hsur : n1 < 55296 ∨ 56319 < n1
            · rw [if_pos hsur] at hr
              simp only [Prod.mk.injEq] at hr
              obtain ⟨rfl, rfl, rfl⟩ := hr
              have CP := fun wx => rput_yes n1 wx (by unfold Utf.isr; omega)
              have hs1 : (decide ((n1 : Int) < 55296) || decide (56319 < (n1 : Int))) = true := by simp; omega
              have hn16 : (n1 : Int) < 65536 := by omega
              obtain ⟨q, hq⟩ : ∃ q, str (Utf.enc n1) = q := ⟨_, rfl⟩
              have HQ := Lib.hid hq
              rw [hq] at CP
              have hn0 : (0 : Int) ≤ n1 := by omega
              clear hf hl hf2 hl2 he1 HR HR2 hcb hs1 h117 hq
              rcases hsur with h5 | h5
              · have h5' : (n1 : Int) < 55296 := by omega
                clear h5
                generalize (n1 : Int) = ni at *
                go_wp2_with fail
                ((with_reducible refine (CH _).mono ?_); rintro x w' ⟨rfl, rfl⟩)
                go_wp2_with fail
                ((with_reducible refine (CP _).mono ?_); rintro x w9 ⟨rfl, b9⟩)
                go_wp2
                go_ret3
                exact ⟨by rw [rtrip_ok, HQ.out]; rfl, up HB.out b9⟩
              · have h5' : ¬ (n1 : Int) < 55296 := by omega
                have h6' : 56319 < (n1 : Int) := by omega
                clear h5
                generalize (n1 : Int) = ni at *
                go_wp2_with fail
                ((with_reducible refine (CH _).mono ?_); rintro x w' ⟨rfl, rfl⟩)
                go_wp2_with fail
                ((with_reducible refine (CP _).mono ?_); rintro x w9 ⟨rfl, b9⟩)
                go_wp2
                go_ret3
                exact ⟨by rw [rtrip_ok, HQ.out]; rfl, up HB.out b9⟩
            · rw [if_neg hsur] at hr
              have hg : ∀ j, (((bl s).drop 6).getD j 0) = (bl s).getD (6 + j) 0 := fun j => by simp [List.getD_eq_getElem?_getD, List.getElem?_drop]
              have hgl : ((bl s).drop 6).length = s.size - 6 := by rw [List.length_drop, bl_length]
              have hl6 : 6 ≤ s.size := by rw [List.length_drop, bl_length] at hl2; omega
              have hx6 : ∀ h : 6 < s.size, _ := bl_at s 6
              have hx7 : ∀ h : 7 < s.size, _ := bl_at s 7
              have hpre : Utf.pre ((bl s).drop 6) = if s.size - 6 = 0 then 3 else if (bl s).getD 6 0 ≠ 92 then 41 else if s.size - 6 = 1 then 3 else if (bl s).getD 7 0 ≠ 117 then 41 else 0 := by
                unfold Utf.pre; rw [hg, hg, hgl]
              have CG := fun wx => rhalf (s.extract 8 s.size) true wx (by rw [ByteArray.size_extract]; unfold maxLen; omega) (Utf.hx true ((bl s).drop 8)) (by rw [bl_from])
              have hs2 := Utf.hx_second ((bl s).drop 8)
              obtain ⟨⟨n2, e2⟩, hx2⟩ : ∃ p, Utf.hx true ((bl s).drop 8) = p := ⟨_, rfl⟩
              rw [hpre, hx2] at hr
              rw [hx2] at CG hs2
              simp only [tup] at hr CG hs2
              have hb6 := Utf.getD_byte (bl_byte s) 6
              have hb7 := Utf.getD_byte (bl_byte s) 7
              generalize (bl s).getD 6 0 = c6 at *
              generalize (bl s).getD 7 0 = c7 at *
              have HRR := Lib.hid hr
              have h5' : ¬ (n1 : Int) < 55296 := by omega
              have h6' : ¬ 56319 < (n1 : Int) := by omega
              have HN1 := Lib.hid (show 55296 ≤ n1 ∧ n1 ≤ 56319 by omega)
              have HS2 := Lib.hid hs2
              have hni : (0 : Int) ≤ n1 := by omega
              obtain ⟨ni, hnie⟩ : ∃ ni : Int, (n1 : Int) = ni := ⟨_, rfl⟩
              have HNI := Lib.hid hnie
              rw [hnie] at CH h5' h6' hni
              have HCG := Lib.hid CG
              clear hr hg hgl hpre hx2 hf hl hf2 hl2 he1 HR HR2 hcb h117 hsur hs2 hnie CG
              go_wp2_with fail
              ((with_reducible refine (CH _).mono ?_); rintro x w' ⟨rfl, rfl⟩)
              go_wp2
              go_loopw [10] (fun i wx => ∃ k : Nat, 6 ≤ k ∧ k ≤ 8 ∧ i = .int .i64 k ∧ (7 ≤ k → 7 ≤ s.size ∧ c6 = 92) ∧ (8 ≤ k → 8 ≤ s.size ∧ c7 = 117) ∧ Below w.heap.size w wx) (fun i _ => 8 - (intOf i).toNat)
              case atStart => exact ⟨6, by omega, by omega, rfl, by omega, by omega, HB.out⟩
              case round =>
                obtain ⟨k, hk6, hk8, rfl, hA, hB, hb⟩ := hrel
                have HB2 := Lib.hid hb
                clear hb
                have hk := (show k = 6 ∨ k = 7 ∨ k = 8 by omega)
                rcases hk with hk | hk | hk
                · by_cases hz : s.size = 6
                  · have hr := HRR.out
                    rw [if_pos (show s.size - 6 = 0 by omega)] at hr
                    simp at hr
                    obtain ⟨rfl, rfl, rfl⟩ := hr
                    have hz' : (s.size : Int) ≤ k := by omega
                    have hki : (k : Int) < 8 := by omega
                    clear hA hB hx6 hx7 CH HCG hz hk
                    go_wp2
                    go_ret3
                    exact ⟨rfl, HB2.out⟩
                  · have h6 : 6 < s.size := by omega
                    have hz' : ¬ (s.size : Int) ≤ k := by omega
                    have hki : (k : Int) < 8 := by omega
                    have hk6i : (6 : Int) ≤ k := by omega
                    have hks : k < s.size := by omega
                    have hz2 : (k : Int) < s.size := by omega
                    have hxx : s[k].toNat = c6 := by subst hk; exact hx6 h6
                    obtain ⟨d, hd⟩ : ∃ d : Nat, d = 92 := ⟨_, rfl⟩
                    have hpu := pu_run k d (by omega)
                    have HK := Lib.hid hk
                    by_cases h92 : c6 = 92
                    · have hcq : ((c6 : Int) != d) = false := by rw [h92, hd]; rfl
                      have HC := Lib.hid h92
                      have HZ := Lib.hid (show 7 ≤ s.size by omega)
                      clear hA hB hx6 hx7 CH HCG hz h92 hd hk h6
                      go_wp2
                      go_quiet (fail)
                      go_wp2
                      go_roundw
                      case rel => exact ⟨k + 1, by have := HK.out; omega, by have := HK.out; omega, by go_num, fun _ => ⟨HZ.out, HC.out⟩, fun h => by have := HK.out; omega, below_drewN HB2.out _⟩
                      case measure => have := HK.out; simp [intOf]; omega
                    · have hr := HRR.out
                      rw [if_neg (show ¬ s.size - 6 = 0 by omega), if_pos h92] at hr
                      simp at hr
                      obtain ⟨rfl, rfl, rfl⟩ := hr
                      have hcq : ((c6 : Int) != d) = true := by rw [bne_iff_ne]; omega
                      clear hA hB hx6 hx7 CH HCG hz h92 hd hk h6
                      go_wp2
                      go_quiet (fail)
                      go_wp2
                      go_ret3
                      exact ⟨rfl, below_drewN HB2.out _⟩
                · obtain ⟨hA1, hA2⟩ := hA (by omega)
                  by_cases hz : s.size = 7
                  · have hr := HRR.out
                    rw [if_neg (show ¬ s.size - 6 = 0 by omega), if_neg (show ¬ c6 ≠ 92 by omega), if_pos (show s.size - 6 = 1 by omega)] at hr
                    simp at hr
                    obtain ⟨rfl, rfl, rfl⟩ := hr
                    have hz' : (s.size : Int) ≤ k := by omega
                    have hki : (k : Int) < 8 := by omega
                    clear hA hB hx6 hx7 CH HCG hz hA1 hA2 hk
                    go_wp2
                    go_ret3
                    exact ⟨rfl, HB2.out⟩
                  · have h7 : 7 < s.size := by omega
                    have hz' : ¬ (s.size : Int) ≤ k := by omega
                    have hki : (k : Int) < 8 := by omega
                    have hk6i : (6 : Int) ≤ k := by omega
                    have hks : k < s.size := by omega
                    have hz2 : (k : Int) < s.size := by omega
                    have hxx : s[k].toNat = c7 := by subst hk; exact hx7 h7
                    obtain ⟨d, hd⟩ : ∃ d : Nat, d = 117 := ⟨_, rfl⟩
                    have hpu := pu_run k d (by omega)
                    have HK := Lib.hid hk
                    by_cases h92 : c7 = 117
                    · have hcq : ((c7 : Int) != d) = false := by rw [h92, hd]; rfl
                      have HC := Lib.hid h92
                      have HC6 := Lib.hid hA2
                      have HZ := Lib.hid (show 8 ≤ s.size by omega)
                      clear hA hB hx6 hx7 CH HCG hz h92 hA1 hA2 hd hk h7
                      go_wp2
                      go_quiet (fail)
                      go_wp2
                      go_roundw
                      case rel => exact ⟨k + 1, by have := HK.out; omega, by have := HK.out; omega, by go_num, fun _ => ⟨by have := HZ.out; omega, HC6.out⟩, fun _ => ⟨HZ.out, HC.out⟩, below_drewN HB2.out _⟩
                      case measure => have := HK.out; simp [intOf]; omega
                    · have hr := HRR.out
                      rw [if_neg (show ¬ s.size - 6 = 0 by omega), if_neg (show ¬ c6 ≠ 92 by omega), if_neg (show ¬ s.size - 6 = 1 by omega), if_pos h92] at hr
                      simp at hr
                      obtain ⟨rfl, rfl, rfl⟩ := hr
                      have hcq : ((c7 : Int) != d) = true := by rw [bne_iff_ne]; omega
                      clear hA hB hx6 hx7 CH HCG hz h92 hA1 hA2 hd hk h7
                      go_wp2
                      go_quiet (fail)
                      go_wp2
                      go_ret3
                      exact ⟨rfl, below_drewN HB2.out _⟩
                · obtain ⟨hA1, hA2⟩ := hA (by omega)
                  obtain ⟨hB1, hB2⟩ := hB (by omega)
                  have hr := HRR.out
                  rw [if_neg (show ¬ s.size - 6 = 0 by omega), if_neg (show ¬ c6 ≠ 92 by omega), if_neg (show ¬ s.size - 6 = 1 by omega), if_neg (show ¬ c7 ≠ 117 by omega), if_neg (by simp)] at hr
                  have hz3 : (8 : Int) ≤ s.size := by omega
                  have hki : ¬ (k : Int) < 8 := by omega
                  clear hk
                  by_cases he2 : e2 = 0
                  · rw [if_neg (by omega)] at hr
                    simp only [Prod.mk.injEq] at hr
                    obtain ⟨rfl, rfl, rfl⟩ := hr
                    have h1 := HN1.out
                    have h2 := HS2.out he2
                    have hnx := HNI.out
                    have CG := HCG.out
                    rw [he2] at CG
                    obtain ⟨R, hRe⟩ : ∃ R, 65536 + 1024 * (n1 - 55296) + (n2 - 56320) = R := ⟨_, rfl⟩
                    have CP := fun wx => rput_yes R wx (by unfold Utf.isr; omega)
                    obtain ⟨q, hq⟩ : ∃ q, str (Utf.enc R) = q := ⟨_, rfl⟩
                    have HQ := Lib.hid (show str (Utf.enc (65536 + 1024 * (n1 - 55296) + (n2 - 56320))) = q by rw [hRe]; exact hq)
                    rw [hq] at CP
                    have hRi : (R : Int) = 65536 + 1024 * (ni - 55296) + n2 - 56320 := by omega
                    rw [hRi] at CP
                    obtain ⟨mi, hmi⟩ : ∃ mi : Int, (n2 : Int) = mi := ⟨_, rfl⟩
                    rw [hmi] at CP CG
                    have g1 : 55296 ≤ ni := by omega
                    have g2 : ni ≤ 56319 := by omega
                    have g3 : 56320 ≤ mi := by omega
                    have g4 : mi ≤ 57343 := by omega
                    clear hA hB hx6 hx7 CH HCG hA1 hA2 hB1 hB2 he2 h1 h2 hnx hRe hq hRi hmi h5' h6' hni
                    go_wp2_with fail
                    ((with_reducible refine (CG _).mono ?_); rintro x w' ⟨rfl, rfl⟩)
                    go_wp2_with fail
                    ((with_reducible refine (CP _).mono ?_); rintro x w9 ⟨rfl, b9⟩)
                    go_wp2
                    go_ret3
                    exact ⟨by rw [rtrip_ok, HQ.out]; rfl, up HB2.out b9⟩
                  · rw [if_pos he2] at hr
                    simp only [Prod.mk.injEq] at hr
                    obtain ⟨rfl, rfl, rfl⟩ := hr
                    have CG := HCG.out
                    have hee : ((e2 : Int) != 0) = true := by rw [bne_iff_ne]; omega
                    have HE2 := Lib.hid he2
                    clear hA hB hx6 hx7 CH HCG hA1 hA2 hB1 hB2 he2
                    go_wp2_with fail
                    ((with_reducible refine (CG _).mono ?_); rintro x w' ⟨rfl, rfl⟩)
                    go_wp2
                    go_ret3
                    exact ⟨by rw [rtrip_no _ _ HE2.out]; rfl, HB2.out⟩
          · rw [if_pos he1] at hr
            simp only [Prod.mk.injEq] at hr
            obtain ⟨rfl, rfl, rfl⟩ := hr
            have hee : ((e1 : Int) != 0) = true := by rw [bne_iff_ne]; omega
            have HE1 := Lib.hid he1
            clear hf hl he1 HR HR2 hcb h117
            go_wp2_with fail
            ((with_reducible refine (CH _).mono ?_); rintro x w' ⟨rfl, rfl⟩)
            go_wp2
            go_ret3
            exact ⟨by rw [rtrip_no _ _ HE1.out]; rfl, HB.out⟩
        · rw [if_neg h117, if_pos hsd] at hr
          simp only [Prod.mk.injEq] at hr
          obtain ⟨rfl, rfl, rfl⟩ := hr
          have hcc : ((c : Int) != 117) = true := by rw [bne_iff_ne]; omega
          clear hsd h117
          go_wp2
          go_ret3
          exact ⟨rfl, HB.out⟩
end Go.Proofs.YtpmfalcmlkcafaaDoor
