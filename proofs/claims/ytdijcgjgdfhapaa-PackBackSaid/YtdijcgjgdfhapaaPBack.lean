/- The walk of PackBack: it returns true and changes nothing that was there. -/
import Derived.Test.YtdijcgjgdfhapaaPure
import Derived.Test.YtdijcgjgdfhapaaPFull
namespace Go.Proofs.Ytdijcgjgdfhapaa
open Go.RowKit
set_option linter.unusedVariables false

theorem wp_len {W w : World} {g p : Nat} {l : List Nat} {e : Int} (h : WP W w g l p e) : p ≤ l.length := by obtain ⟨R, h, _⟩ := h; exact h.at
set_option maxHeartbeats 4000000 in
set_option maxRecDepth 100000 in
theorem packBack (v : Value) (l : List Pc) (w : World) (h : RdPc w w.heap.size v l) :
    Calls Try.prog 5 #[v] w fun e w' => e = .returned (.bool true) ∧ Below w.heap.size w w' := by
  have hlen := h.len
  obtain ⟨a, c, rfl, hc, -⟩ := id h
  have H := Lib.hid h
  clear h
  obtain ⟨K, hK1, hK2, hK3⟩ : ∃ K, K ≤ l.length ∧ K ≤ 40 ∧ (K = l.length ∨ K = 40) := ⟨min l.length 40, by omega, by omega, by omega⟩
  have hBl := cat_len l K hK1
  go_enter Try.func5, Try.ntmps5
  go_wp2_with fail
  refine (works _).mono ?_
  rintro x w0 ⟨rfl, b0⟩
  go_wp2_with fail
  refine (ww_made w 1048576 1048576 _ b0 (by decide) (by decide) (by decide)).mono ?_
  rintro x w1 ⟨g, rfl, hW⟩
  have HW := Lib.hid hW
  clear hW b0
  go_wp2
  go_loopw [4] (fun i wr => ∃ k : Nat, k ≤ K ∧ i = .int .i64 k ∧ WW w wr g 1048576 (false, cat l k)) (fun i _ => 40 - (intOf i).toNat)
  case atStart => exact ⟨0, by omega, rfl, by rw [cat_zero]; exact HW.out⟩
  case round =>
    clear HW
    obtain ⟨k, hk, rfl, hT⟩ := hrel
    by_cases hlt : k < K
    · have hl1 : k < l.length := by omega
      have hl2 : k < 40 := by omega
      obtain ⟨b, off, p, rfl, hp, hok, hc0, hc1, hc2⟩ := H.out.at hT.below hl1
      obtain ⟨⟨k0, k1⟩, ⟨n0, n1⟩, hs⟩ := hok
      have hq := cat_len l k (by omega)
      have hst := stW_cat 1048576 l (by omega) (k + 1) (by omega) (by omega)
      rw [stW_succ 1048576 l k p hp, stW_cat 1048576 l (by omega) k (by omega) (by omega)] at hst
      have HST := Lib.hid hst
      have HT := Lib.hid hT
      clear hst hT hp
      go_wp2_with fail
      refine (ww_put (false, cat l (k + 1)) p.k p.n p.s HT.out (by omega) (by omega) k0 k1 n0 n1 hs HST.out).mono ?_
      rintro x w3 ⟨rfl, hT3⟩
      have HT3 := Lib.hid hT3
      clear hT3 HT hc0 hc1 hc2
      go_wp2
      go_roundw
      case rel => exact ⟨k + 1, by omega, by go_num, HT3.out⟩
      case measure => simp [intOf]; omega
    · obtain rfl : k = K := by omega
      have h3 : ¬ k < l.length ∨ (k < l.length ∧ ¬ k < 40) := by omega
      have HT := Lib.hid hT
      have hBl2 : (cat l k).length ≤ 100000 := by omega
      clear hT hK3
      rcases h3 with h4 | ⟨h4, h5⟩
      all_goals
        go_wp2_with fail
        refine (ww_done (cat l k) 0 HT.out (by omega) rfl rfl).mono ?_
        rintro x w3 ⟨r, rfl, ho, hb⟩
        have hB3 := up HT.out.below hb
        have hrd := ho.rd
        obtain ⟨ar, cr, rfl, -⟩ := ho.rd
        have HRD := Lib.hid hrd
        clear ho hb hrd
        go_wp2_with fail
        refine (wp_new w _ (cat l k) _ hB3 HRD.out hBl2).mono ?_
        rintro x w4 ⟨g2, rfl, hR⟩
        have HR := Lib.hid hR
        clear hR hB3 HRD
        go_wp2
        go_loopw [8] (fun i wr => ∃ j : Nat, j ≤ k ∧ i = .int .i64 j ∧ WP w wr g2 (cat l k) (cat l j).length 0) (fun i _ => 40 - (intOf i).toNat)
        case atStart => exact ⟨0, by omega, rfl, by rw [cat_zero]; exact HR.out⟩
        case round =>
          clear HR
          obtain ⟨j, hj, rfl, hT⟩ := hrel
          by_cases hjk : j < k
          · have hl1 : j < l.length := by omega
            have hl2 : j < 40 := by omega
            obtain ⟨b, off, p, rfl, hp, hok, hc0, hc1, hc2⟩ := H.out.at hT.below hl1
            obtain ⟨⟨k0, k1⟩, ⟨n0, n1⟩, hs⟩ := hok
            obtain ⟨t, ht⟩ := cat_split l j k p hjk hK1 hp
            have hdrop : (cat l k).drop (cat l j).length = pieceL p.k p.n p.s ++ t := by rw [ht, List.drop_left]; rfl
            have hful := takeF_full p.k p.n p.s t n0 n1
            rw [← hdrop] at hful
            have hlen2 : (cat l k).length = (cat l j).length + ((pieceL p.k p.n p.s).length + t.length) := by rw [ht, List.length_append, List.length_append]; rfl
            have hsucc : (cat l (j + 1)).length = (cat l j).length + (pieceL p.k p.n p.s).length := by rw [cat_succ l j p hp, List.length_append]; rfl
            have HFU := Lib.hid hful
            have HSU := Lib.hid hsucc
            have HT := Lib.hid hT
            have HPK := Lib.hid hp
            have hend : endV (cat l k) (cat l j).length = 30 ∨ (endV (cat l k) (cat l j).length = 0 ∧ (pieceL p.k p.n p.s).length = 0) := by
              unfold endV
              by_cases h6 : (cat l j).length < (cat l k).length
              · rw [if_pos h6]; exact .inl rfl
              · rw [if_neg h6]; exact .inr ⟨rfl, by omega⟩
            clear hful hsucc hT hdrop ht hp hlen2
            rcases hend with he | ⟨he, hz⟩
            · have HE := Lib.hid he
              clear he
              go_wp2_with fail
              refine (wp_end 30 HT.out HE.out).mono ?_
              rintro x w5 ⟨n5, rfl, rfl⟩
              have HT5 := Lib.hid (HT.out.drewN n5)
              go_wp2_with fail
              refine (wp_takes p.k p.n p.s true (cat l (j + 1)).length 0 HT5.out k0 k1 n0 n1 hs (by rw [HFU.out, HSU.out]; rfl)).mono ?_
              rintro x w6 ⟨rfl, hT6⟩
              have HT6 := Lib.hid hT6
              clear hT6 HT5 HT hc0 hc1 hc2
              go_wp2_with fail
              refine (err _ 0 _ HT6.out.re).mono ?_
              rintro x w7 ⟨rfl, rfl⟩
              go_wp2
              go_roundw
              case rel => exact ⟨j + 1, by omega, by go_num, HT6.out⟩
              case measure => simp [intOf]; omega
            · have HE := Lib.hid he
              have HZ := Lib.hid hz
              clear he hz
              go_wp2_with fail
              refine (wp_end 0 HT.out HE.out).mono ?_
              rintro x w5 ⟨n5, rfl, rfl⟩
              have HT5 := Lib.hid (HT.out.drewN n5)
              go_wp2_with fail
              refine (psize p.k p.n p.s _ k0 k1 n0 n1 hs).mono ?_
              rintro x w6 ⟨rfl, hb6⟩
              rw [HZ.out]
              have HT6 := Lib.hid (HT5.out.later hb6)
              obtain ⟨hc0', hc1', hc2'⟩ := H.out.again HT6.out.below hl1 HPK.out
              clear hb6 HT5 HT hc0 hc1 hc2
              go_wp2_with fail
              refine (wp_takes p.k p.n p.s true (cat l (j + 1)).length 0 HT6.out k0 k1 n0 n1 hs (by rw [HFU.out, HSU.out]; rfl)).mono ?_
              rintro x w7 ⟨rfl, hT7⟩
              have HT7 := Lib.hid hT7
              clear hT7 HT6 hc0' hc1' hc2'
              go_wp2_with fail
              refine (err _ 0 _ HT7.out.re).mono ?_
              rintro x w8 ⟨rfl, rfl⟩
              go_wp2
              go_roundw
              case rel => exact ⟨j + 1, by omega, by go_num, HT7.out⟩
              case measure => simp [intOf]; omega
          · obtain rfl : j = k := by omega
            have HT := Lib.hid hT
            clear hT
            go_wp2_with fail
            refine (wp_end 0 HT.out (by unfold endV; rw [if_neg (by omega)])).mono ?_
            rintro x w5 ⟨n5, rfl, rfl⟩
            have HT5 := Lib.hid (HT.out.drewN n5)
            go_wp2_with fail
            refine (wp_left 0 HT5.out (by omega)).mono ?_
            rintro x w6 ⟨n6, rfl, rfl⟩
            have HT6 := Lib.hid (HT5.out.drewN n6)
            go_wp2_with fail
            refine (wp_at (HT.out.drewN (n5 + n6))).mono ?_
            rintro x w7 ⟨rfl, rfl⟩
            go_wp2
            go_ret
            exact ⟨rfl, (HT.out.drewN (n5 + n6)).below⟩
end Go.Proofs.Ytdijcgjgdfhapaa
