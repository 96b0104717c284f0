/- The walk of PackSticks: it returns true and changes nothing that was there. -/
import Derived.Test.YtdijcgjgdfhapaaTwin
namespace Go.Proofs.Ytdijcgjgdfhapaa
open Go.RowKit
set_option linter.unusedVariables false

set_option maxHeartbeats 4000000 in
set_option maxRecDepth 100000 in
theorem packSticks (v : Value) (lb : List Nat) (first : Int) (va : Value) (l : List Ak) (w : World) (hv : Rd w w.heap.size v lb) (m0 : -9223372036854775808 ≤ first) (m1 : first ≤ 9223372036854775807) (h : RdAk w w.heap.size va l) :
    Calls Try.prog 7 #[v, .int .i64 first, va] w fun e w' => e = .returned (.bool true) ∧ Below w.heap.size w w' := by
  have hlen := h.len
  have hbm := hv.len
  unfold maxLen at hbm
  obtain ⟨a, c, rfl, hc, -⟩ := id h
  obtain ⟨ab, cb, rfl, hb1, hb2, -⟩ := id hv
  unfold maxLen at hb2
  have ht := hv.take 300
  have HTK := Lib.hid ht
  have H := Lib.hid h
  have htl : (lb.take 300).length ≤ 300 := by rw [List.length_take]; omega
  have hmin : (min (lb.length : Int) 300).toNat = (lb.take 300).length := by rw [List.length_take]; omega
  have HMI := Lib.hid hmin
  clear h ht hv hmin
  generalize lb.take 300 = L at *
  obtain ⟨n5, hn5, h50, h51⟩ : ∃ n5 : Int, first % 5 = n5 ∧ 0 ≤ n5 ∧ n5 < 5 := ⟨_, rfl, by omega, by omega⟩
  obtain ⟨n6, hn6, h60, h61⟩ : ∃ n6 : Int, first % 6 = n6 ∧ 0 ≤ n6 ∧ n6 < 6 := ⟨_, rfl, by omega, by omega⟩
  have H5 := Lib.hid hn5
  have H6 := Lib.hid hn6
  clear hn5 hn6
  by_cases he : ((fRaw n5 (L.drop 0)).2.2 : Int) = 0
  case' pos =>
    have HE := Lib.hid he
    clear he
    go_enter Try.func7, Try.ntmps7
    go_wp2_with fail
    rw [HMI.out]
    refine (wp_new w _ L _ (Below.refl _ _) HTK.out (by omega)).mono ?_
    rintro x w1 ⟨g, rfl, hR⟩
    have HR := Lib.hid hR
    clear hR
    go_wp2_with fail
    refine (bring_is first 5 n5 _ m0 m1 (by omega) (by omega) H5.out).mono ?_
    rintro x w2 ⟨rfl, rfl⟩
    go_wp2_with fail
    refine (wp_raw n5 _ 0 _ HR.out (by omega) (by omega) (by rw [HE.out])).mono ?_
    rintro x w2 ⟨v2, rfl, -, hR2⟩
    generalize 0 + (fRaw n5 (L.drop 0)).2.1 = q at hR2
    have HR2 := Lib.hid hR2
    clear hR2 HR
    go_wp2_with fail
    refine (err _ 0 _ HR2.out.re).mono ?_
    rintro x w3 ⟨rfl, rfl⟩
    go_wp2_with fail
    refine (bring_is first 6 n6 _ m0 m1 (by omega) (by omega) H6.out).mono ?_
    rintro x w3 ⟨rfl, rfl⟩
    go_wp2_with fail
    refine (wp_fail (1 + n6) HR2.out).mono ?_
    rintro x w3 ⟨rfl, hR3⟩
    have hne : 1 + n6 ≠ 0 := by omega
    clear HR2 HE H5 H6
    generalize 1 + n6 = E at *
    have HR3 := Lib.hid hR3
    have HNE := Lib.hid hne
    clear hR3 hne
  case' neg =>
    go_enter Try.func7, Try.ntmps7
    go_wp2_with fail
    rw [HMI.out]
    refine (wp_new w _ L _ (Below.refl _ _) HTK.out (by omega)).mono ?_
    rintro x w1 ⟨g, rfl, hR⟩
    have HR := Lib.hid hR
    clear hR
    go_wp2_with fail
    refine (bring_is first 5 n5 _ m0 m1 (by omega) (by omega) H5.out).mono ?_
    rintro x w2 ⟨rfl, rfl⟩
    go_wp2_with fail
    refine (wp_raw n5 _ _ _ HR.out (by omega) (by omega) rfl).mono ?_
    rintro x w3 ⟨v2, rfl, -, hR2⟩
    generalize 0 + (fRaw n5 (L.drop 0)).2.1 = q at hR2
    generalize ((fRaw n5 (L.drop 0)).2.2 : Int) = E at *
    have HR3 := Lib.hid hR2
    have HNE := Lib.hid he
    have hbe : (E == 0) = false := by simpa using he
    clear hR2 HR he H5 H6
    go_wp2_with fail
    refine (err _ E _ HR3.out.re).mono ?_
    rintro x w4 ⟨rfl, rfl⟩
  all_goals
    go_wp2_with fail
    refine (wp_at HR3.out).mono ?_
    rintro x w4 ⟨rfl, rfl⟩
    go_wp2_with fail
    refine (wp_left _ HR3.out rfl).mono ?_
    rintro x w4 ⟨n4, rfl, rfl⟩
    have HR4 := Lib.hid (HR3.out.drewN n4)
    clear HR3
    go_wp2
    go_loopw [11] (fun i wr => ∃ k : Nat, k ≤ l.length ∧ k ≤ 40 ∧ i = .int .i64 (k : Int) ∧ WP w wr g L q E) (fun i _ => 40 - (intOf i).toNat)
    case atStart => exact ⟨0, by omega, by omega, rfl, HR4.out⟩
    case round =>
      clear HR4
      obtain ⟨k, hk, hk40, rfl, hT⟩ := hrel
      by_cases hlt : k < l.length ∧ k < 40
      · obtain ⟨hl1, hl2⟩ := hlt
        obtain ⟨b, off, ak, rfl, hp, hok, hc0, hc1⟩ := H.out.at hT.below hl1
        obtain ⟨⟨k0, k1⟩, ⟨n0, n1⟩⟩ := hok
        have HT := Lib.hid hT
        clear hT hp
        go_wp2_with fail
        refine (asked_stuck _ E ak.k ak.n _ HT.out.re HNE.out k0 k1 n0 n1).mono ?_
        rintro x w5 ⟨rfl, hb5⟩
        have HT5 := Lib.hid (HT.out.later hb5)
        clear hb5 hc0 hc1
        go_wp2_with fail
        refine (err _ E _ HT5.out.re).mono ?_
        rintro x w6 ⟨rfl, rfl⟩
        go_wp2_with fail
        refine (wp_at HT5.out).mono ?_
        rintro x w6 ⟨rfl, rfl⟩
        go_wp2_with fail
        refine (wp_left _ HT5.out rfl).mono ?_
        rintro x w6 ⟨n6', rfl, rfl⟩
        go_wp2_with fail
        refine (end_stuck _ E _ (HT5.out.drewN n6').re HNE.out).mono ?_
        rintro x w7 ⟨n7, rfl, rfl⟩
        have HT7 := Lib.hid (HT5.out.drewN (n6' + n7))
        go_wp2
        go_roundw
        case rel => exact ⟨k + 1, by omega, by omega, by go_num, HT7.out⟩
        case measure => simp [intOf]; omega
      · rcases split40 _ _ hlt with h1 | ⟨h1, h2⟩
        all_goals
          go_wp2_with fail
          refine (works _).mono ?_
          rintro x w5 ⟨rfl, b5⟩
          go_wp2
          go_ret
          exact ⟨rfl, up hT.below b5⟩
end Go.Proofs.Ytdijcgjgdfhapaa
