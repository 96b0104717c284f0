/- The walk of PackFull: it returns true and changes nothing that was there. -/
import Derived.Test.YtdijcgjgdfhapaaSize
namespace Go.Proofs.Ytdijcgjgdfhapaa
open Go.RowKit
set_option linter.unusedVariables false

theorem puts_full (m : Nat) (l r : List Nat) : puts m true l r = (true, l) := by unfold puts; rw [if_pos (.inl rfl)]
theorem puts_over (m : Nat) (l r : List Nat) (h : m < l.length + r.length) : puts m false l r = (true, l) := by unfold puts; rw [if_pos (.inr h)]
theorem puts_fits (m : Nat) (l r : List Nat) (h : l.length + r.length ≤ m) : puts m false l r = (false, l ++ r) := by unfold puts; rw [if_neg (by simp; omega)]
theorem ww_put {W w : World} {g m : Nat} {f : Bool} {l : List Nat} (st : Bool × List Nat) (k n : Int) (s : ByteArray) (h : WW W w g m (f, l)) (hm : (m : Int) ≤ 9223372036854775807) (hl : l.length ≤ 100000000)
    (k0 : -9223372036854775808 ≤ k) (k1 : k ≤ 9223372036854775807) (n0 : 0 ≤ n) (n1 : n ≤ 18446744073709551615) (hs : s.size ≤ 9223372036854775807) (hst : puts m f l (pieceL k n s) = st) :
    Calls Try.prog 13 #[.pointer (some ⟨g, 0, none⟩), .agg #[.int .i64 k, .int .u64 n, .string s]] w fun x w' => x = .returned undef ∧ WW W w' g m st := by
  subst hst
  exact h.calls fun R P => wPiece g m f l k n s R w P hm hl k0 k1 n0 n1 hs
/-- The cells of a piece, once more, in a later world. -/
theorem RdPc.again {W w : World} {b off n c : Nat} {l : List Pc} {p : Pc} (h : RdPc W W.heap.size (.slice (some ⟨b, off, none⟩) n c) l) (hb : Below W.heap.size W w) {i : Nat} (hi : i < l.length) (hp : l[i]? = some p) :
    w.cell? ⟨b, off + i * 3, none⟩ = some (.int .i64 p.k) ∧ w.cell? ⟨b, off + i * 3 + 1, none⟩ = some (.int .u64 p.n) ∧ w.cell? ⟨b, off + i * 3 + 2, none⟩ = some (.string p.s) := by
  obtain ⟨b', off', p', e', hp', _, h0, h1, h2⟩ := h.at hb hi
  obtain rfl : p' = p := Option.some.inj (hp'.symm.trans hp)
  injection e' with e'
  injection e' with e1 e2
  subst e1 e2
  exact ⟨h0, h1, h2⟩
/-- What PackFull has counted. -/
def Full (m : Nat) (st : Bool × List Nat) (A : Nat) : Prop := (st.1 = false ∧ A = st.2.length ∧ A ≤ m) ∨ (st.1 = true ∧ m < A)

set_option maxHeartbeats 4000000 in
set_option maxRecDepth 100000 in
theorem packFull (most : Int) (v : Value) (l : List Pc) (w : World) (m0 : -9223372036854775808 ≤ most) (m1 : most ≤ 9223372036854775807) (h : RdPc w w.heap.size v l) :
    Calls Try.prog 6 #[.int .i64 most, v] w fun e w' => e = .returned (.bool true) ∧ Below w.heap.size w w' := by
  have hlen := h.len
  obtain ⟨a, c, rfl, hc, -⟩ := id h
  have H := Lib.hid h
  clear h
  have hmm : ((max most 0).toNat : Int) ≤ 9223372036854775807 := by omega
  have hx1 : ((max most 0).toNat : Int) ≤ max most 0 := by omega
  have hx2 : max most 0 ≤ ((max most 0).toNat : Int) := by omega
  generalize hm : (max most 0).toNat = m at *
  have HM := Lib.hid hm
  clear hm
  go_enter Try.func6, Try.ntmps6
  go_wp2_with fail
  refine (ww_made w most m _ (Below.refl _ _) m0 m1 HM.out).mono ?_
  rintro x w1 ⟨g, rfl, hW⟩
  have HW := Lib.hid hW
  clear hW
  go_wp2
  go_loopw [6, 7, 8] (fun al ha i wr => ∃ k A : Nat, k ≤ l.length ∧ k ≤ 40 ∧ A ≤ 50 * k ∧ al = .int .i64 A ∧ ha = .int .i64 (stW m l k).2.length ∧ i = .int .i64 k ∧ WW w wr g m (stW m l k) ∧ Full m (stW m l k) A) (fun _ _ i _ => 40 - (intOf i).toNat)
  case atStart => exact ⟨0, 0, by omega, by omega, by omega, rfl, by rw [stW_zero]; rfl, rfl, by rw [stW_zero]; exact HW.out, by rw [stW_zero]; exact .inl ⟨rfl, rfl, by omega⟩⟩
  case round =>
    clear HW
    obtain ⟨k, A, hk, hk40, hA, rfl, rfl, rfl, hT, hF⟩ := hrel
    by_cases hlt : k < l.length ∧ k < 40
    · obtain ⟨hl1, hl2⟩ := hlt
      obtain ⟨b, off, p, rfl, hp, hok, hc0, hc1, hc2⟩ := H.out.at hT.below hl1
      obtain ⟨⟨k0, k1⟩, ⟨n0, n1⟩, hs⟩ := hok
      have hq := stW_len m l k
      have hkb : (stW m l k).2.length ≤ 100000000 := by omega
      have hst := stW_succ m l k p hp
      have hpl := pieceL_len p.k p.n p.s
      rw [show stW m l k = ((stW m l k).1, (stW m l k).2) from rfl] at hT hF
      generalize (stW m l k).1 = f0 at *
      generalize (stW m l k).2 = l0 at *
      generalize hst2 : stW m l (k + 1) = st at *
      rw [show p.bytes = pieceL p.k p.n p.s from rfl] at hst
      generalize hpb : pieceL p.k p.n p.s = r at *
      have HPB := Lib.hid hpb
      have HPK := Lib.hid hp
      have HT := Lib.hid hT
      have HST := Lib.hid hst
      have HST2 := Lib.hid hst2
      have h3 : (f0 = false ∧ A = l0.length ∧ A ≤ m ∧ A + r.length ≤ m) ∨ (f0 = false ∧ A = l0.length ∧ A ≤ m ∧ m < A + r.length) ∨ (f0 = true ∧ m < A) := by
        rcases hF with ⟨h1, h2, h3⟩ | ⟨h1, h2⟩
        · dsimp only at h1 h2
          by_cases h4 : A + r.length ≤ m
          · exact .inl ⟨h1, h2, h3, h4⟩
          · exact .inr (.inl ⟨h1, h2, h3, by omega⟩)
        · exact .inr (.inr ⟨h1, h2⟩)
      clear hT hst hst2 hp hF hpb
      rcases h3 with ⟨rfl, rfl, h5, h6⟩ | ⟨rfl, rfl, h5, h6⟩ | ⟨rfl, h5⟩
      · have HF := Lib.hid (HST.out.trans (puts_fits m l0 r h6))
        have h7 : (l0.length : Int) ≤ max most 0 := by omega
        have h8 : (l0.length : Int) + (r.length : Int) ≤ max most 0 := by omega
        go_wp2_with fail
        refine (ww_put st p.k p.n p.s HT.out hmm hkb k0 k1 n0 n1 hs (by rw [HPB.out]; exact HST.out.symm)).mono ?_
        rintro x w3 ⟨rfl, hT3⟩
        obtain ⟨hc0', hc1', hc2'⟩ := H.out.again hT3.below hl1 HPK.out
        have HT3 := Lib.hid hT3
        clear hT3 HT hc0 hc1 hc2
        go_wp2_with fail
        refine (psize p.k p.n p.s _ k0 k1 n0 n1 hs).mono ?_
        rintro x w4 ⟨rfl, hb4⟩
        rw [HPB.out]
        have HT4 := Lib.hid (HT3.out.later hb4)
        clear hb4 HT3
        go_wp2
        go_roundw
        case rel =>
          have hT4 := HT4.out
          rw [HF.out] at hT4
          refine ⟨k + 1, l0.length + r.length, by omega, by omega, by omega, by go_num, ?_, by go_num, ?_, ?_⟩
          · rw [HST2.out, HF.out, List.length_append]; go_num
          · rw [HST2.out, HF.out]; exact hT4
          · rw [HST2.out, HF.out]; exact .inl ⟨rfl, by simp, h6⟩
        case measure => simp [intOf]; omega
      · have HF := Lib.hid (HST.out.trans (puts_over m l0 r h6))
        have h7 : (l0.length : Int) ≤ max most 0 := by omega
        have h8 : max most 0 < (l0.length : Int) + (r.length : Int) := by omega
        go_wp2_with fail
        refine (ww_put st p.k p.n p.s HT.out hmm hkb k0 k1 n0 n1 hs (by rw [HPB.out]; exact HST.out.symm)).mono ?_
        rintro x w3 ⟨rfl, hT3⟩
        obtain ⟨hc0', hc1', hc2'⟩ := H.out.again hT3.below hl1 HPK.out
        have HT3 := Lib.hid hT3
        clear hT3 HT hc0 hc1 hc2
        go_wp2_with fail
        refine (psize p.k p.n p.s _ k0 k1 n0 n1 hs).mono ?_
        rintro x w4 ⟨rfl, hb4⟩
        rw [HPB.out]
        have HT4 := Lib.hid (HT3.out.later hb4)
        clear hb4 HT3
        go_wp2
        go_roundw
        case rel =>
          have hT4 := HT4.out
          rw [HF.out] at hT4
          refine ⟨k + 1, l0.length + r.length, by omega, by omega, by omega, by go_num, ?_, by go_num, ?_, ?_⟩
          · rw [HST2.out, HF.out]
          · rw [HST2.out, HF.out]; exact hT4
          · rw [HST2.out, HF.out]; exact .inr ⟨rfl, h6⟩
        case measure => simp [intOf]; omega
      · have HF := Lib.hid (HST.out.trans (puts_full m l0 r))
        have h7 : max most 0 < (A : Int) := by omega
        go_wp2_with fail
        refine (ww_put st p.k p.n p.s HT.out hmm hkb k0 k1 n0 n1 hs (by rw [HPB.out]; exact HST.out.symm)).mono ?_
        rintro x w3 ⟨rfl, hT3⟩
        have HT3 := Lib.hid hT3
        clear hT3 HT hc0 hc1 hc2
        go_wp2
        go_roundw
        case rel =>
          have hT4 := HT3.out
          rw [HF.out] at hT4
          refine ⟨k + 1, A, by omega, by omega, by omega, rfl, ?_, by go_num, ?_, ?_⟩
          · rw [HST2.out, HF.out]
          · rw [HST2.out, HF.out]; exact hT4
          · rw [HST2.out, HF.out]; exact .inr ⟨rfl, h5⟩
        case measure => simp [intOf]; omega
    · have hq := stW_len m l k
      have hkb : (stW m l k).2.length ≤ 100000000 := by omega
      rw [show stW m l k = ((stW m l k).1, (stW m l k).2) from rfl] at hT hF
      generalize (stW m l k).1 = f0 at *
      generalize (stW m l k).2 = l0 at *
      have HT := Lib.hid hT
      clear hT
      rcases hF with ⟨h1, h2, h3⟩ | ⟨h1, h2⟩
      · dsimp only at h1 h2
        subst h1 h2
        have h7 : (l0.length : Int) ≤ max most 0 := by omega
        rcases split40 _ _ hlt with h4 | ⟨h4, h5⟩
        all_goals
          go_wp2_with fail
          refine (ww_done l0 0 HT.out hkb rfl rfl).mono ?_
          rintro x w3 ⟨r, rfl, ho, hb⟩
          obtain ⟨ar, cr, rfl, -⟩ := ho.rd
          have HT3 := Lib.hid (HT.out.later hb)
          clear ho hb HT
          go_wp2_with fail
          refine (ww_len l0.length HT3.out rfl).mono ?_
          rintro x w4 ⟨rfl, rfl⟩
          go_wp2_with fail
          refine (works _).mono ?_
          rintro x w5 ⟨rfl, b5⟩
          go_wp2
          go_ret
          exact ⟨rfl, up HT3.out.below b5⟩
      · dsimp only at h1
        subst h1
        have h7 : max most 0 < (A : Int) := by omega
        rcases split40 _ _ hlt with h4 | ⟨h4, h5⟩
        all_goals
          go_wp2_with fail
          refine (ww_done [] 5 HT.out hkb rfl rfl).mono ?_
          rintro x w3 ⟨r, rfl, ho, hb⟩
          obtain ⟨ar, cr, rfl, -⟩ := ho.rd
          have HT3 := Lib.hid (HT.out.later hb)
          clear ho hb HT
          go_wp2_with fail
          refine (ww_len l0.length HT3.out rfl).mono ?_
          rintro x w4 ⟨rfl, rfl⟩
          go_wp2_with fail
          refine (works _).mono ?_
          rintro x w5 ⟨rfl, b5⟩
          go_wp2
          go_ret
          exact ⟨rfl, up HT3.out.below b5⟩
end Go.Proofs.Ytdijcgjgdfhapaa
