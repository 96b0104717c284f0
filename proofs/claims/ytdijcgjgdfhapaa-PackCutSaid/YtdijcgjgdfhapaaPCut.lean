/- The walk of PackCut: it returns true and changes nothing that was there. -/
import Derived.Test.YtdijcgjgdfhapaaPBack
import Derived.Deep.RegionHeld3
import Derived.IntWalk
namespace Go.Proofs.Ytdijcgjgdfhapaa
open Go.RowKit
set_option linter.unusedVariables false

theorem cut_whole (B p t : List Nat) (c n : Nat) (hn : n = B.length) (h : n + p.length ≤ c) : ∃ t', ((B ++ (p ++ t)).take c).drop n = p ++ t' := by
  subst hn
  refine ⟨t.take (c - B.length - p.length), ?_⟩
  rw [List.take_append, List.take_of_length_le (by omega), List.drop_left, List.take_append, List.take_of_length_le (by omega)]
theorem cut_part (B p t : List Nat) (c n : Nat) (hn : n = B.length) (h0 : n ≤ c) (h : c < n + p.length) : ((B ++ (p ++ t)).take c).drop n = p.take (c - n) := by
  subst hn
  rw [List.take_append, List.take_of_length_le (by omega), List.drop_left, List.take_append_of_le_length (by omega)]
theorem up_drew {W w1 w2 : World} (h : Below W.heap.size W w1) (h2 : Below w1.drew.heap.size w1.drew w2) : Below W.heap.size W w2 := up h (undrew h2)
theorem flip_same {f : Nat} {args : Array Value} {w : World} {v : Value} (h : Calls Try.prog f args w fun e w' => e = .returned v ∧ w = w') : Calls Try.prog f args w fun e w' => e = .returned v ∧ w' = w :=
  h.mono fun _ _ ⟨he, hw⟩ => ⟨he, hw.symm⟩
set_option maxHeartbeats 4000000 in
set_option maxRecDepth 100000 in
theorem packCut (v : Value) (l : List Pc) (cut : Int) (w : World) (h : RdPc w w.heap.size v l) (m0 : -9223372036854775808 ≤ cut) (m1 : cut ≤ 9223372036854775807) :
    Calls Try.prog 8 #[v, .int .i64 cut] w fun e w' => e = .returned (.bool true) ∧ Below w.heap.size w w' := by
  have hlen := h.len
  obtain ⟨a, c, rfl, hc, -⟩ := id h
  have H := Lib.hid h
  clear h
  obtain ⟨K, hK1, hK2, hK3⟩ : ∃ K, K ≤ l.length ∧ K ≤ 40 ∧ (K = l.length ∨ K = 40) := ⟨min l.length 40, by omega, by omega, by omega⟩
  have hBl := cat_len l K hK1
  go_enter Try.func8, Try.ntmps8
  go_wp2_with fail
  refine (ww_made w 1048576 1048576 _ (Below.refl _ _) (by decide) (by decide) (by decide)).mono ?_
  rintro x w1 ⟨g, rfl, hW⟩
  have HW := Lib.hid hW
  clear hW
  go_wp2
  go_loopw [6] (fun i wr => ∃ k : Nat, k ≤ K ∧ i = .int .i64 k ∧ WW w wr g 1048576 (false, cat l k)) (fun i _ => 40 - (intOf i).toNat)
  case atStart => exact ⟨0, by omega, rfl, by rw [cat_zero]; exact HW.out⟩
  case round =>
    clear HW
    obtain ⟨k, hk, rfl, hT⟩ := hrel
    by_cases hlt : k < K
    · have hl1 : k < l.length := by omega
      have hl2 : k < 40 := by omega
      obtain ⟨b, off, p, rfl, hp, hok, hc0, hc1, hc2⟩ := H.out.at hT.below hl1
      obtain ⟨⟨k0, k1⟩, ⟨n0, n1⟩, hs⟩ := hok
      have hq := cat_len l k (by omega)
      have hst := stW_cat 1048576 l (by omega) (k + 1) (by omega) (by omega)
      rw [stW_succ 1048576 l k p hp, stW_cat 1048576 l (by omega) k (by omega) (by omega)] at hst
      have HST := Lib.hid hst
      have HT := Lib.hid hT
      clear hst hT hp
      go_wp2_with fail
      refine (ww_put (false, cat l (k + 1)) p.k p.n p.s HT.out (by omega) (by omega) k0 k1 n0 n1 hs HST.out).mono ?_
      rintro x w3 ⟨rfl, hT3⟩
      have HT3 := Lib.hid hT3
      clear hT3 HT hc0 hc1 hc2
      go_wp2
      go_roundw
      case rel => exact ⟨k + 1, by omega, by go_num, HT3.out⟩
      case measure => simp [intOf]; omega
    · obtain rfl : k = K := by omega
      have h3 : ¬ k < l.length ∨ (k < l.length ∧ ¬ k < 40) := by omega
      have HT := Lib.hid hT
      have hBl2 : (cat l k).length ≤ 100000 := by omega
      clear hT hK3
      obtain ⟨C, hC, hCl⟩ : ∃ C : Nat, cut % (((cat l k).length : Int) + 1) = (C : Int) ∧ C ≤ (cat l k).length := by
        have h1 := Int.emod_nonneg cut (show ((cat l k).length : Int) + 1 ≠ 0 by omega)
        have h2 := Int.emod_lt_of_pos cut (show (0 : Int) < ((cat l k).length : Int) + 1 by omega)
        exact ⟨(cut % (((cat l k).length : Int) + 1)).toNat, by omega, by omega⟩
      have HC := Lib.hid hC
      clear hC
      rcases h3 with h4 | ⟨h4, h5⟩
      all_goals
        go_wp2_with fail
        refine (ww_done (cat l k) 0 HT.out (by omega) rfl rfl).mono ?_
        rintro x w3 ⟨r, rfl, ho, hb⟩
        have hB3 := up HT.out.below hb
        have hrd := ho.rd
        obtain ⟨ar, cr, rfl, -⟩ := ho.rd
        have HRD := Lib.hid hrd
        have HB3 := Lib.hid hB3
        clear ho hb hrd hB3
        go_wp2_with fail
        refine (bring_is cut _ C _ m0 m1 (by omega) (by omega) HC.out).mono ?_
        rintro x w4 ⟨rfl, rfl⟩
        obtain ⟨u, hu, hru⟩ := cut_to _ _ ar (cat l k) cr C HRD.out hCl
        have HU := Lib.hid hru
        clear hru
        have htk : ((cat l k).take C).length = C := by rw [List.length_take]; omega
        have HTK := Lib.hid htk
        clear htk
        go_wp2_with fail
        refine (wp_new w u ((cat l k).take C) _ HB3.out HU.out (by rw [HTK.out]; omega)).mono ?_
        rintro x w4 ⟨g2, rfl, hR⟩
        have HR := Lib.hid hR
        clear hR HB3 HRD hu
        go_wp2
        go_loopw [10, 11, 12] (fun at1 i _ wr => ∃ j : Nat, j ≤ k ∧ at1 = .int .i64 (cat l j).length ∧ i = .int .i64 j ∧ (cat l j).length ≤ C ∧ WP w wr g2 ((cat l k).take C) (cat l j).length 0) (fun _ i _ _ => 40 - (intOf i).toNat)
        case atStart => exact ⟨0, by omega, by rw [cat_zero]; rfl, rfl, by rw [cat_zero]; exact Nat.zero_le _, by rw [cat_zero]; exact HR.out⟩
        case round =>
          clear HR HU
          obtain ⟨j, hj, rfl, rfl, hjC, hT⟩ := hrel
          by_cases hjk : j < k
          · have hl1 : j < l.length := by omega
            have hl2 : j < 40 := by omega
            obtain ⟨b, off, p, rfl, hp, hok, hc0, hc1, hc2⟩ := H.out.at hT.below hl1
            obtain ⟨⟨k0, k1⟩, ⟨n0, n1⟩, hs⟩ := hok
            obtain ⟨t, ht⟩ := cat_split l j k p hjk hK1 hp
            have hsucc : (cat l (j + 1)).length = (cat l j).length + (pieceL p.k p.n p.s).length := by rw [cat_succ l j p hp, List.length_append]; rfl
            have hpl := pieceL_len p.k p.n p.s
            have HSU := Lib.hid hsucc
            have HT := Lib.hid hT
            have HPK := Lib.hid hp
            have HB := Lib.hid ht
            clear hsucc hT hp ht
            by_cases hin : (cat l j).length + (pieceL p.k p.n p.s).length ≤ C
            · obtain ⟨t', ht'⟩ := cut_whole (cat l j) (pieceL p.k p.n p.s) t C _ rfl hin
              rw [show cat l j ++ (pieceL p.k p.n p.s ++ t) = cat l k from HB.out.symm] at ht'
              have hful := takeF_full p.k p.n p.s t' n0 n1
              rw [← ht'] at hful
              have HFU := Lib.hid hful
              clear ht' hful
              go_wp2_with fail
              refine (psize p.k p.n p.s _ k0 k1 n0 n1 hs).mono ?_
              rintro x w5 ⟨rfl, hb5⟩
              have HT5 := Lib.hid (HT.out.later hb5)
              obtain ⟨hc0', hc1', hc2'⟩ := H.out.again HT5.out.below hl1 HPK.out
              clear hb5 HT hc0 hc1 hc2
              go_wp2_with fail
              refine (wp_takes p.k p.n p.s true (cat l (j + 1)).length 0 HT5.out k0 k1 n0 n1 hs (by rw [HFU.out, HSU.out]; rfl)).mono ?_
              rintro x w6 ⟨rfl, hT6⟩
              have HT6 := Lib.hid hT6
              clear hT6 HT5 hc0' hc1' hc2'
              go_wp2_with fail
              refine (err _ 0 _ HT6.out.re).mono ?_
              rintro x w7 ⟨rfl, rfl⟩
              go_wp2_with fail
              refine (wp_at HT6.out).mono ?_
              rintro x w7 ⟨rfl, rfl⟩
              rw [HSU.out, Int.natCast_add]
              go_wp2
              go_roundw
              case rel => exact ⟨j + 1, by omega, by rw [HSU.out]; go_num, by go_num, by rw [HSU.out]; exact hin, HT6.out⟩
              case measure => simp [intOf]; omega
            · have ht' := cut_part (cat l j) (pieceL p.k p.n p.s) t C _ rfl hjC (by omega)
              rw [show cat l j ++ (pieceL p.k p.n p.s ++ t) = cat l k from HB.out.symm] at ht'
              have hful := takeF_cut p.k p.n p.s (C - (cat l j).length) n0 n1 (by omega)
              rw [← ht'] at hful
              have HFU := Lib.hid hful
              clear ht' hful
              go_wp2_with fail
              refine (psize p.k p.n p.s _ k0 k1 n0 n1 hs).mono ?_
              rintro x w5 ⟨rfl, hb5⟩
              have HT5 := Lib.hid (HT.out.later hb5)
              obtain ⟨hc0', hc1', hc2'⟩ := H.out.again HT5.out.below hl1 HPK.out
              clear hb5 HT hc0 hc1 hc2
              go_wp2_with fail
              refine (wp_takes p.k p.n p.s _ (cat l j).length 3 HT5.out k0 k1 n0 n1 hs (Prod.ext rfl (by rw [HFU.out]; rfl))).mono ?_
              rintro x w6 ⟨rfl, hT6⟩
              obtain ⟨hd0, hd1, hd2⟩ := H.out.again hT6.below hl1 HPK.out
              have HT6 := Lib.hid hT6
              clear hT6 HT5 hc0' hc1' hc2'
              have HT6d := Lib.hid (HT6.out.drewN 1)
              go_wp2_with fail
              have hw0 : IntKind.i64.wrap ((cat l j).length : Int) = ((cat l j).length : Int) := IntWalk.i64_in _ (by omega)
              go_region_held3 (fun wx => wx.cell? ⟨b, off + j * 3, none⟩ = some (.int .i64 p.k) ∧ wx.cell? ⟨b, off + j * 3 + 1, none⟩ = some (.int .u64 p.n) ∧ wx.cell? ⟨b, off + j * 3 + 2, none⟩ = some (.string p.s)) (first | exact ⟨hd0, hd1, hd2⟩ | exact hd7 | exact hd8)
                (first
                | (go_at_call 26; refine (err _ 3 _ HT6d.out.re).mono ?_; rintro x w' ⟨rfl, rfl⟩)
                | (go_at_call 27; refine (wp_at HT6d.out).mono ?_; rintro x w' ⟨rfl, rfl⟩)
                | (go_at_call 32; refine (psize p.k p.n p.s _ k0 k1 n0 n1 hs).mono ?_; rintro x w7 ⟨rfl, hb7⟩; have hd7 := H.out.again (up_drew HT6.out.below hb7) hl1 HPK.out; have HB7 := Lib.hid (up_drew HT6.out.below hb7); clear hb7)
                | (go_at_call 20; refine (works _).mono ?_; rintro x w8 ⟨rfl, hb8⟩; have hd8 := H.out.again (up HB7.out hb8) hl1 HPK.out; have HB8 := Lib.hid (up HB7.out hb8); clear hb8))
              clear hw0
              go_wp2
              go_ret
              exact ⟨rfl, HB8.out⟩
          · obtain rfl : j = k := by omega
            have HT := Lib.hid hT
            clear hT
            go_wp2_with fail
            refine (wp_end 0 HT.out (by unfold endV; rw [HTK.out, if_neg (by omega)])).mono ?_
            rintro x w5 ⟨n5, rfl, rfl⟩
            have hB5 := below_drewN HT.out.below n5
            go_wp2_with fail
            refine (works _).mono ?_
            rintro x w6 ⟨rfl, b6⟩
            go_wp2
            go_ret
            exact ⟨rfl, up hB5 b6⟩
end Go.Proofs.Ytdijcgjgdfhapaa
