/- The walk of PackNone: it returns true and changes nothing that was there. -/
import Derived.Test.YtdijcgjgdfhapaaNone
import Derived.Test.YtdijcgjgdfhapaaTwin
import Derived.Test.YtdijcgjgdfhapaaPFull
namespace Go.Proofs.Ytdijcgjgdfhapaa
open Go.RowKit
set_option linter.unusedVariables false

theorem RN.new (w : World) : RN (w.alloc (.cells #[.bool false, .slice none 0 0, .int .i64 0, .int .i64 0] 71)) (.pointer (some ⟨w.heap.size, 0, none⟩)) := .inr ⟨_, rfl, Blk.new w _ _⟩
theorem WN.new (w : World) : WN (w.alloc (.cells #[.bool false, .slice none 0 0, .int .i64 0, .int .i64 0] 69)) (.pointer (some ⟨w.heap.size, 0, none⟩)) := .inr ⟨_, rfl, Blk.new w _ _⟩
theorem RN.drewN {w : World} {v : Value} (h : RN w v) (n : Nat) : RN (w.drewN n) v := h
set_option maxHeartbeats 4000000 in
set_option maxRecDepth 100000 in
theorem packNone (vl : Value) (l : List Pc) (va : Value) (q : List Ak) (w : World) (hl : RdPc w w.heap.size vl l) (hq : RdAk w w.heap.size va q) :
    Calls Try.prog 9 #[vl, va] w fun e w' => e = .returned (.bool true) ∧ Below w.heap.size w w' := by
  have hlen := hl.len
  have hqen := hq.len
  obtain ⟨a, c, rfl, hc, -⟩ := id hl
  obtain ⟨aq, cq, rfl, hcq, -⟩ := id hq
  have HL := Lib.hid hl
  have HQ := Lib.hid hq
  clear hl hq
  go_enter Try.func9, Try.ntmps9
  go_wp2
  go_loopw [5, 6, 7] (fun wv rv tv wr => ∃ t : Nat, t ≤ 2 ∧ tv = .int .i64 (t : Int) ∧ WN wr wv ∧ RN wr rv ∧ Below w.heap.size w wr) (fun _ _ t _ => 2 - (intOf t).toNat)
  case atStart => exact ⟨0, by omega, rfl, .inl rfl, .inl rfl, Below.refl _ _⟩
  case round =>
    obtain ⟨t, ht, rfl, hW, hR, hB⟩ := hrel
    obtain ⟨wo, hwo⟩ : ∃ wo, wo = wr := ⟨_, rfl⟩
    subst hwo
    by_cases ht2 : t < 2
    · have hd : decide ((t : Int) < 2) = true := by simp; omega
      have HW := Lib.hid hW
      have HR := Lib.hid hR
      have HB := Lib.hid hB
      clear hW hR hB
      go_wp2
      go_loopw [8] (fun i w2 => ∃ k : Nat, k ≤ l.length ∧ k ≤ 40 ∧ i = .int .i64 (k : Int) ∧ Below wo.heap.size wo w2) (fun i _ => 40 - (intOf i).toNat)
      case atStart => exact ⟨0, by omega, by omega, rfl, Below.refl _ _⟩
      case round =>
        obtain ⟨k, hk, hk40, rfl, hB2⟩ := hrel
        by_cases hlt : k < l.length ∧ k < 40
        · obtain ⟨hl1, hl2⟩ := hlt
          obtain ⟨b, off, p, rfl, hp, hok, hc0, hc1, hc2⟩ := HL.out.at (up HB.out hB2) hl1
          obtain ⟨⟨k0, k1⟩, ⟨n0, n1⟩, hs⟩ := hok
          have HB2 := Lib.hid hB2
          clear hp hB2
          go_wp2_with fail
          refine (nPiece _ p.k p.n p.s _ (HW.out.later HB2.out) k0 k1 n0 n1 hs).mono ?_
          rintro x w3 ⟨rfl, hb3⟩
          have HB3 := Lib.hid (up HB2.out hb3)
          clear hb3 hc0 hc1 hc2
          go_wp2
          go_roundw
          case rel => exact ⟨k + 1, by omega, by omega, by go_num, HB3.out⟩
          case measure => simp [intOf]; omega
        · obtain ⟨wi, hwi⟩ : ∃ wi, wi = wr := ⟨_, rfl⟩
          subst hwi
          have HB2 := Lib.hid hB2
          clear hB2
          rcases split40 _ _ hlt with h1 | ⟨h1, h2⟩
          all_goals
            go_wp2
            go_loopw [9] (fun i w2 => ∃ j : Nat, j ≤ q.length ∧ j ≤ 40 ∧ i = .int .i64 (j : Int) ∧ Below wo.heap.size wo w2) (fun i _ => 40 - (intOf i).toNat)
            case atStart => exact ⟨0, by omega, by omega, rfl, HB2.out⟩
            case round =>
              clear HB2
              obtain ⟨j, hj, hj40, rfl, hB3⟩ := hrel
              have HB3 := Lib.hid hB3
              clear hB3
              by_cases hjt : j < q.length ∧ j < 40
              · obtain ⟨hq1, hq2⟩ := hjt
                obtain ⟨b, off, ak, rfl, hp, hok, hc0, hc1⟩ := HQ.out.at (up HB.out HB3.out) hq1
                obtain ⟨⟨k0, k1⟩, ⟨n0, n1⟩⟩ := hok
                clear hp
                go_wp2_with fail
                refine (asked_stuck _ 1 ak.k ak.n _ (HR.out.later HB3.out).re (by decide) k0 k1 n0 n1).mono ?_
                rintro x w5 ⟨rfl, hb5⟩
                have HB5 := Lib.hid (up HB3.out hb5)
                clear hb5 hc0 hc1
                go_wp2
                go_roundw
                case rel => exact ⟨j + 1, by omega, by omega, by go_num, HB5.out⟩
                case measure => simp [intOf]; omega
              · have HW3 := Lib.hid (HW.out.later HB3.out)
                have HR3 := Lib.hid (HR.out.later HB3.out)
                have HB4 := Lib.hid (up HB.out HB3.out)
                clear HB3
                rcases split40 _ _ hjt with g1 | ⟨g1, g2⟩
                all_goals
                  go_wp2_with fail
                  refine (nDone _ _ HW3.out).mono ?_
                  rintro x w6 ⟨rfl, rfl⟩
                  go_wp2_with fail
                  refine (nLen _ _ HW3.out).mono ?_
                  rintro x w6 ⟨rfl, rfl⟩
                  go_wp2_with fail
                  refine (err _ 1 _ HR3.out.re).mono ?_
                  rintro x w6 ⟨rfl, rfl⟩
                  go_wp2_with fail
                  refine (end_stuck _ 1 _ HR3.out.re (by decide)).mono ?_
                  rintro x w6 ⟨n6, rfl, rfl⟩
                  go_wp2_with fail
                  refine (at_none _ _ (HR3.out.drewN n6)).mono ?_
                  rintro x w6 ⟨rfl, rfl⟩
                  go_wp2_with fail
                  refine (left_none _ _ (HR3.out.drewN n6)).mono ?_
                  rintro x w6 ⟨n7, rfl, rfl⟩
                  go_wp2
                  go_roundw
                  case rel =>
                    refine ⟨t + 1, by omega, by go_num, ?_, ?_, ?_⟩
                    · exact (WN.new (wr.drewN (n6 + n7))).later (new_below _ _)
                    · have := RN.new ((wr.drewN (n6 + n7)).alloc (.cells #[.bool false, .slice none 0 0, .int .i64 0, .int .i64 0] 69))
                      rw [World.size_alloc] at this
                      exact this
                    · exact below_alloc (below_alloc (below_drewN HB4.out (n6 + n7)) _) _
                  case measure => simp [intOf]; omega
    · obtain rfl : t = 2 := by omega
      go_wp2_with fail
      refine (works _).mono ?_
      rintro x w5 ⟨rfl, b5⟩
      go_wp2
      go_ret
      exact ⟨rfl, up hB b5⟩
end Go.Proofs.Ytdijcgjgdfhapaa
