/- The walk of PackReads: it returns true and changes nothing that was there. -/
import Derived.Test.YtdijcgjgdfhapaaTwin
namespace Go.Proofs.Ytdijcgjgdfhapaa
open Go.RowKit
set_option linter.unusedVariables false

set_option maxHeartbeats 4000000 in
set_option maxRecDepth 100000 in
theorem packReads (v : Value) (lb : List Nat) (va : Value) (l : List Ak) (w : World) (hv : Rd w w.heap.size v lb) (h : RdAk w w.heap.size va l) :
    Calls Try.prog 4 #[v, va] w fun e w' => e = .returned (.bool true) ∧ Below w.heap.size w w' := by
  have hlen := h.len
  have hbm := hv.len
  unfold maxLen at hbm
  obtain ⟨a, c, rfl, hc, -⟩ := id h
  obtain ⟨ab, cb, rfl, hb1, hb2, -⟩ := id hv
  unfold maxLen at hb2
  have ht := hv.take 300
  have HTK := Lib.hid ht
  have H := Lib.hid h
  have htl : (lb.take 300).length ≤ 300 := by rw [List.length_take]; omega
  clear h ht hv
  go_enter Try.func4, Try.ntmps4
  go_wp2_with fail
  rw [show (min (lb.length : Int) 300).toNat = (lb.take 300).length by rw [List.length_take]; omega]
  refine (copyBytes _ _ _ HTK.out (by omega)).mono ?_
  rintro x w1 ⟨r, rfl, ho, b1⟩
  generalize lb.take 300 = L at *
  have hrd := ho.rd
  have HO := Lib.hid ho
  have HRD := Lib.hid hrd
  clear ho hrd
  go_wp2_with fail
  refine (newReader r L _ HRD.out (by omega)).mono ?_
  rintro x w2 ⟨g, R, rfl, hP, b2, hR⟩
  have HRD2 := Lib.hid (HRD.out.later (Nat.le_refl _) b2)
  have HP := Lib.hid hP
  have HR := Lib.hid hR
  have HB1 := Lib.hid b1
  have HB2 := Lib.hid b2
  clear hP hR b1 b2
  go_wp2_with fail
  refine (rnewReader r L _ HRD2.out (by omega)).mono ?_
  rintro x w3 ⟨g', S, rfl, hQ, b3, hS⟩
  have HQ := Lib.hid hQ
  have HS := Lib.hid hS
  have HB3 := Lib.hid b3
  clear hQ hS b3
  go_wp2_with fail
  refine (spoil r L _ _ ((HO.out.later HB2.out).later HB3.out) (by omega)).mono ?_
  rintro x w4 ⟨rfl, ht4⟩
  have hT : TR w w4 g g' L 0 0 0 0 := by
    have hlt : ∀ k, r.ownBlock = some k → w.heap.size ≤ k ∧ k < w1.heap.size := fun k hk => HO.out.lt k hk
    have s2 := HB2.out.size
    have s1 := HB1.out.size
    refine ⟨R, S, (HP.out.later HB3.out).touch ht4 (fun k hk hk2 => ?_), HQ.out.touch ht4 (fun k hk hk2 => ?_), fun k hk hk2 => ?_, fun k hk => ?_, fun k hk => ?_, below_touch (up (up HB1.out HB2.out) HB3.out) (fun k hk => (hlt k hk).1) ht4⟩
    · have := HR.out k hk; have := (hlt k hk2).2; omega
    · have := HS.out k hk; have := (hlt k hk2).2; omega
    · have := HP.out.reach k hk; have := HS.out k hk2; omega
    · have := HR.out k hk; omega
    · have := HS.out k hk; omega
  have HT := Lib.hid hT
  clear hT ht4 HP HQ HR HS HB1 HB2 HB3 HO HRD HRD2
  go_wp2
  go_loopw [8] (fun i wr => ∃ k p, ∃ e : Int, k ≤ l.length ∧ k ≤ 40 ∧ i = .int .i64 (k : Int) ∧ TR w wr g g' L p e p e) (fun i _ => 40 - (intOf i).toNat)
  case atStart => exact ⟨0, 0, 0, by omega, by omega, rfl, HT.out⟩
  case round =>
    clear HT
    obtain ⟨k, p, e, hk, hk40, rfl, hT⟩ := hrel
    by_cases hlt : k < l.length ∧ k < 40
    · obtain ⟨hl1, hl2⟩ := hlt
      obtain ⟨b, off, ak, rfl, hp, hok, hc0, hc1⟩ := H.out.at hT.below hl1
      obtain ⟨⟨k0, k1⟩, ⟨n0, n1⟩⟩ := hok
      obtain ⟨z, s, q, d, hask, hans⟩ := both_ask ak.k ak.n hT k0 k1 n0 n1
      have HT := Lib.hid hT
      have HAsk := Lib.hid hask
      have HAns := Lib.hid hans
      have HPK := Lib.hid hp
      clear hT hask hans hp
      go_wp2_with fail
      refine (HAsk.out).mono ?_
      rintro x w5 ⟨rfl, hT5⟩
      obtain ⟨hd0, hd1⟩ := H.out.again hT5.below hl1 HPK.out
      have HT5 := Lib.hid hT5
      clear hT5 hc0 hc1
      go_wp2_with fail
      refine (HAns.out _ HT5.out).mono ?_
      rintro x w6 ⟨rfl, hT6⟩
      obtain ⟨hc1, hc2⟩ := tr_cells hT6
      have HT6 := Lib.hid hT6
      clear hT6 hd0 hd1
      go_wp2_with fail
      go_quiet (((first
        | (go_at_call 26; exact Calls.quiet_of_same ((err _ d _ (HT6.out.drewN _).re).mono (fun _ _ h => ⟨h.1, h.2.symm⟩)))
        | (go_at_call 27; exact Calls.quiet_of_same (tr_at (HT6.out.drewN _)))
        | (go_at_call 28; exact Calls.quiet_of (tr_left (HT6.out.drewN _)))
        | (go_at_call 29; exact Calls.quiet_of (tr_rleft (HT6.out.drewN _)))
        | (go_at_call 30; exact Calls.quiet_of (tr_end (HT6.out.drewN _)))
        | (go_at_call 31; exact Calls.quiet_of (tr_rend (HT6.out.drewN _))))))
      go_wp2
      go_roundw
      case rel => exact ⟨k + 1, q, d, by omega, by omega, by go_num, HT6.out.drewN _⟩
      case measure => simp [intOf]; omega
    · rcases split40 _ _ hlt with h1 | ⟨h1, h2⟩
      all_goals
        go_wp2_with fail
        refine (works _).mono ?_
        rintro x w5 ⟨rfl, b5⟩
        go_wp2
        go_ret
        exact ⟨rfl, up hT.below b5⟩
end Go.Proofs.Ytdijcgjgdfhapaa
