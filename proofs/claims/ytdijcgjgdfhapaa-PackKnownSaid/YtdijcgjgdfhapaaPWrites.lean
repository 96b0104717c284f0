/- The walk of PackWrites: it returns true and changes nothing that was there. -/
import Derived.Test.YtdijcgjgdfhapaaArgs
namespace Go.Proofs.Ytdijcgjgdfhapaa
open Go.RowKit
set_option linter.unusedVariables false

/-- A writer of the program and one of the reference, newer than W, apart from each other. -/
def TW (W w : World) (g g' m : Nat) (s s' : Bool × List Nat) : Prop :=
  ∃ R S, PW w R g m s ∧ RW w S g' m s' ∧ (∀ x, R x → ¬ S x) ∧ (∀ x, R x → W.heap.size ≤ x) ∧ (∀ x, S x → W.heap.size ≤ x) ∧ Below W.heap.size W w
theorem PW.reach {w : World} {R : Nat → Prop} {g m : Nat} {s : Bool × List Nat} (h : PW w R g m s) : ∀ x, R x → x < w.heap.size := by obtain ⟨_, _, _, _, _, h⟩ := h; exact h
theorem RW.reach {w : World} {R : Nat → Prop} {g m : Nat} {s : Bool × List Nat} (h : RW w R g m s) : ∀ x, R x → x < w.heap.size := by obtain ⟨_, _, _, _, _, h⟩ := h; exact h
theorem TW.below {W w : World} {g g' m : Nat} {s s' : Bool × List Nat} (h : TW W w g g' m s s') : Below W.heap.size W w := by obtain ⟨_, _, _, _, _, _, _, h⟩ := h; exact h
theorem TW.later {W w w' : World} {g g' m : Nat} {s s' : Bool × List Nat} (h : TW W w g g' m s s') (hb : Below w.heap.size w w') : TW W w' g g' m s s' := by
  obtain ⟨R, S, h1, h2, h3, h4, h5, h6⟩ := h
  exact ⟨R, S, h1.later hb, h2.later hb, h3, h4, h5, up h6 hb⟩
theorem TW.drewN {W w : World} {g g' m : Nat} {s s' : Bool × List Nat} (h : TW W w g g' m s s') (n : Nat) : TW W (w.drewN n) g g' m s s' := by
  obtain ⟨R, S, h1, h2, h3, h4, h5, h6⟩ := h
  exact ⟨R, S, h1, h2, h3, h4, h5, below_drewN h6 n⟩
/-- What was made since W, and is neither's, has changed. -/
theorem TW.aside {W w w0 w' : World} {g g' m : Nat} {s s' : Bool × List Nat} {T : Nat → Prop} (h : TW W w0 g g' m s s') (hb : Below w0.heap.size w0 w) (ht : Touch T w w') (hT : ∀ x, T x → w0.heap.size ≤ x) : TW W w' g g' m s s' := by
  obtain ⟨R, S, h1, h2, h3, h4, h5, h6⟩ := h
  refine ⟨R, S, (h1.later hb).touch ht (fun k hk hk2 => ?_), (h2.later hb).touch ht (fun k hk hk2 => ?_), h3, h4, h5, below_touch (up h6 hb) (fun k hk => Nat.le_trans h6.size (hT k hk)) ht⟩
  · have := h1.reach k hk; have := hT k hk2; omega
  · have := h2.reach k hk; have := hT k hk2; omega
theorem TW.put {W w : World} {g g' m f : Nat} {s s' t : Bool × List Nat} {args : Array Value} (h : TW W w g g' m s s') (c : ∀ R, PW w R g m s → Calls Try.prog f args w (PPut w R g m t)) :
    Calls Try.prog f args w fun x w' => x = .returned undef ∧ TW W w' g g' m t s' := by
  obtain ⟨R, S, h1, h2, h3, h4, h5, h6⟩ := h
  refine (c R h1).mono fun x w' hx => ?_
  obtain ⟨rfl, R', hP, hT, hR⟩ := hx
  refine ⟨rfl, R', S, hP, h2.touch hT (fun k hk hk2 => h3 k hk2 hk), fun k hk hk2 => (hR k hk).elim (fun h => h3 k h hk2) (fun h => ?_), fun k hk => (hR k hk).elim (h4 k) (Nat.le_trans h6.size), h5, below_touch h6 h4 hT⟩
  have := h2.reach k hk2
  omega
theorem TW.own {W w : World} {g g' m f : Nat} {s s' t : Bool × List Nat} {args : Array Value} (h : TW W w g g' m s s') (c : ∀ S, RW w S g' m s' → Calls Try.prog f args w (RPut w S g' m t)) :
    Calls Try.prog f args w fun x w' => x = .returned undef ∧ TW W w' g g' m s t := by
  obtain ⟨R, S, h1, h2, h3, h4, h5, h6⟩ := h
  refine (c S h2).mono fun x w' hx => ?_
  obtain ⟨rfl, S', hP, hT, hR⟩ := hx
  refine ⟨rfl, R, S', h1.touch hT (fun k hk hk2 => h3 k hk hk2), hP, fun k hk hk2 => (hR k hk2).elim (fun h => h3 k hk h) (fun h => ?_), h4, fun k hk => (hR k hk).elim (h5 k) (Nat.le_trans h6.size), below_touch h6 h5 hT⟩
  have := h1.reach k hk
  omega
theorem tw_done {W w : World} {g g' m : Nat} {f : Bool} {l : List Nat} {s' : Bool × List Nat} (r : List Nat) (e : Int) (h : TW W w g g' m (f, l) s') (hl : l.length ≤ 100000000) (hr : (if f = true then [] else l) = r) (he : (if f = true then (5 : Int) else 0) = e) :
    Calls Try.prog 15 #[.pointer (some ⟨g, 0, none⟩)] w (DoneY w r e) := by
  subst hr he
  obtain ⟨R, S, P, -⟩ := h
  exact wDone g m f l R w P hl
theorem tw_rdone {W w : World} {g g' m : Nat} {f : Bool} {l : List Nat} {s : Bool × List Nat} (r : List Nat) (e : Int) (h : TW W w g g' m s (f, l)) (hl : l.length ≤ 1000000) (hr : (if f = true then [] else l) = r) (he : (if f = true then (5 : Int) else 0) = e) :
    Calls Try.prog 16 #[.pointer (some ⟨g', 0, none⟩)] w (DoneY w r e) := by
  subst hr he
  obtain ⟨R, S, _, P, -⟩ := h
  exact rDone g' m f l S w P hl
theorem tw_len {W w : World} {g g' m : Nat} {f : Bool} {l : List Nat} {s' : Bool × List Nat} (n : Int) (h : TW W w g g' m (f, l) s') (hn : (l.length : Int) = n) :
    Calls Try.prog 17 #[.pointer (some ⟨g, 0, none⟩)] w fun x w' => x = .returned (.int .i64 n) ∧ w = w' := by
  subst hn
  obtain ⟨R, S, P, -⟩ := h
  exact wLen g m f l R w P
theorem tw_rb {W w : World} {g g' m : Nat} {f : Bool} {l : List Nat} {s : Bool × List Nat} (h : TW W w g g' m s (f, l)) : ∃ a c, w.cell? ⟨g', 0, none⟩ = some (.slice a l.length c) := by
  obtain ⟨R, S, _, ⟨v, hb, ho, -⟩, -⟩ := h
  obtain ⟨a, c, rfl, -⟩ := ho.rd
  have := hb.cell 0
  exact ⟨a, c, by simpa using this⟩
theorem tw_new {W w1 w2 : World} {m : Nat} (b0 : Below W.heap.size W w1) {g g' : Nat} {R S : Nat → Prop} (hP : PW w1 R g m (false, [])) (hR : ∀ x, R x → W.heap.size ≤ x) (b : Below w1.heap.size w1 w2) (hQ : RW w2 S g' m (false, [])) (hS : ∀ x, S x → w1.heap.size ≤ x) :
    TW W w2 g g' m (false, []) (false, []) :=
  ⟨R, S, hP.later b, hQ, fun x h1 h2 => by have := hP.reach x h1; have := hS x h2; omega, hR, fun x h => Nat.le_trans b0.size (hS x h), up b0 b⟩
def NewPW (w : World) (m : Nat) (x : Ending) (w' : World) : Prop := ∃ g R, x = .returned (.pointer (some ⟨g, 0, none⟩)) ∧ PW w' R g m (false, []) ∧ Below w.heap.size w w' ∧ ∀ x, R x → w.heap.size ≤ x
def NewRW (w : World) (m : Nat) (x : Ending) (w' : World) : Prop := ∃ g R, x = .returned (.pointer (some ⟨g, 0, none⟩)) ∧ RW w' R g m (false, []) ∧ Below w.heap.size w w' ∧ ∀ x, R x → w.heap.size ≤ x
theorem newWriter_some (m : Int) (n : Nat) (w : World) (h0 : -9223372036854775808 ≤ m) (h1 : m ≤ 9223372036854775807) (hn : (max m 0).toNat = n) : Calls Try.prog 11 #[.int .i64 m] w (NewPW w n) := by
  subst hn
  exact (newWriter m w h0 h1).mono fun _ _ ⟨hx, hP, hB⟩ => ⟨_, _, hx, hP, hB, fun x h => by omega⟩
theorem rnewWriter_some (m : Int) (n : Nat) (w : World) (h0 : -9223372036854775808 ≤ m) (h1 : m ≤ 9223372036854775807) (hn : (max m 0).toNat = n) : Calls Try.prog 12 #[.int .i64 m] w (NewRW w n) := by
  subst hn
  exact (rnewWriter m w h0 h1).mono fun _ _ ⟨hx, hP, hB⟩ => ⟨_, _, hx, hP, hB, fun x h => by omega⟩


set_option maxHeartbeats 4000000 in
set_option maxRecDepth 100000 in
theorem packWrites (most : Int) (v : Value) (l : List Pc) (w : World) (m0 : -9223372036854775808 ≤ most) (m1 : most ≤ 9223372036854775807) (h : RdPc w w.heap.size v l) :
    Calls Try.prog 3 #[.int .i64 most, v] w fun e w' => e = .returned (.bool true) ∧ Below w.heap.size w w' := by
  have hlen := h.len
  obtain ⟨a, c, rfl, hc, -⟩ := id h
  have H := Lib.hid h
  clear h
  have hmm : ((max most 0).toNat : Int) ≤ 9223372036854775807 := by omega
  generalize hm : (max most 0).toNat = m at *
  have HM := Lib.hid hm
  clear hm
  go_enter Try.func3, Try.ntmps3
  go_wp2_with fail
  refine (newWriter_some most m _ m0 m1 HM.out).mono ?_
  rintro x w1 ⟨g, R1, rfl, P1, b1, r1⟩
  go_wp2_with fail
  refine (rnewWriter_some most m _ m0 m1 HM.out).mono ?_
  rintro x w2 ⟨g', R2, rfl, P2, b2, r2⟩
  have HT := Lib.hid (tw_new b1 P1 r1 b2 P2 r2)
  clear P1 P2 b2 b1 r1 r2
  go_wp2
  go_loopw [7] (fun i wr => ∃ k : Nat, k ≤ l.length ∧ k ≤ 40 ∧ i = .int .i64 k ∧ TW w wr g g' m (stW m l k) (stW m l k)) (fun i _ => 40 - (intOf i).toNat)
  case atStart => exact ⟨0, by omega, by omega, rfl, by rw [stW_zero]; exact HT.out⟩
  case round =>
    clear HT
    obtain ⟨k, hk, hk40, rfl, hT⟩ := hrel
    by_cases hlt : k < l.length ∧ k < 40
    · obtain ⟨hl1, hl2⟩ := hlt
      obtain ⟨b, off, p, rfl, hp, hok, hc0, hc1, hc2⟩ := H.out.at hT.below hl1
      obtain ⟨⟨k0, k1⟩, ⟨n0, n1⟩, hs⟩ := hok
      have hq := stW_len m l k
      have hkb : (stW m l k).2.length ≤ 100000000 := by omega
      have hst := stW_succ m l k p hp
      have hq2 := stW_len m l (k + 1)
      have hkb2 : (stW m l (k + 1)).2.length ≤ 1000000 := by omega
      rw [show stW m l k = ((stW m l k).1, (stW m l k).2) from rfl] at hT
      generalize (stW m l k).1 = f0 at *
      generalize (stW m l k).2 = l0 at *
      generalize hst2 : stW m l (k + 1) = st at *
      obtain ⟨f1, l1⟩ := st
      have HPK := Lib.hid hp
      have HT := Lib.hid hT
      have HST := Lib.hid hst
      have HST2 := Lib.hid hst2
      clear hT hst hst2 hp
      go_wp2_with fail
      refine (HT.out.put fun R P => wPiece g m f0 l0 p.k p.n p.s R _ P hmm hkb k0 k1 n0 n1 hs).mono ?_
      rintro x w3 ⟨rfl, hT3⟩
      rw [show puts m f0 l0 (pieceL p.k p.n p.s) = (f1, l1) from HST.out.symm] at hT3
      have hb3 := hT3.below
      obtain ⟨b', off', p', e', hp', _, hc0', hc1', hc2'⟩ := H.out.at hb3 hl1
      obtain rfl : p' = p := Option.some.inj (hp'.symm.trans HPK.out)
      injection e' with e'
      injection e' with e1 e2
      subst e1 e2
      have HT3 := Lib.hid hT3
      clear hT3 hb3 hp' HT hc0 hc1 hc2
      go_wp2_with fail
      refine (HT3.out.own fun S P => rPiece g' m f0 l0 p'.k p'.n p'.s S _ P hmm hkb k0 k1 n0 n1 hs).mono ?_
      rintro x w4 ⟨rfl, hT4⟩
      rw [show puts m f0 l0 (pieceL p'.k p'.n p'.s) = (f1, l1) from HST.out.symm] at hT4
      have HT4 := Lib.hid hT4
      clear hT4 HT3 hc0' hc1' hc2'
      obtain ⟨rr, hrr⟩ : ∃ rr, (if f1 = true then [] else l1) = rr := ⟨_, rfl⟩
      obtain ⟨ee, hee⟩ : ∃ ee : Int, (if f1 = true then (5 : Int) else 0) = ee := ⟨_, rfl⟩
      have hrl : rr.length ≤ 1000000 := by
        subst hrr
        split
        · simp
        · omega
      have HRR := Lib.hid hrr
      have HEE := Lib.hid hee
      clear hrr hee
      go_wp2_with fail
      refine (tw_done rr ee HT4.out (by omega) HRR.out HEE.out).mono ?_
      rintro x w5 ⟨va, rfl, hoa, hb5⟩
      have HT5 := Lib.hid (HT4.out.later hb5)
      go_wp2_with fail
      refine (tw_rdone rr ee HT5.out (by omega) HRR.out HEE.out).mono ?_
      rintro x w6 ⟨vb, rfl, hob, hb6⟩
      have HT6 := Lib.hid (HT5.out.later hb6)
      have HOA := Lib.hid (hoa.later hb6)
      have HOB := Lib.hid hob
      have HB6 := Lib.hid (up hb5 hb6)
      obtain ⟨ra, rc, hrb⟩ := tw_rb HT6.out
      clear hoa hob hb5 hb6 HT5
      go_wp2_with fail
      go_quiet (((first
        | (go_at_call 17; exact Calls.quiet_of_same ((tw_len _ (HT6.out.drewN _) rfl).mono (fun _ _ h => ⟨h.1, h.2.symm⟩)))
        | (go_at_call 18; exact Calls.quiet_of_same ((eq_yes va vb rr rr _ (HOA.out.rd.drewN _) (HOB.out.rd.drewN _) rfl).mono (fun _ _ h => ⟨h.1, h.2.symm⟩))))))
      go_wp2_with fail
      refine (spoil va rr _ _ (show Own (w6.drewN nq) w4.heap.size va rr from HOA.out) (by omega)).mono ?_
      rintro x w7 ⟨rfl, ht7⟩
      have HT7 := Lib.hid (TW.aside (w := w6.drewN nq) HT4.out (below_drewN HB6.out nq) ht7 (fun x hx => (HOA.out.lt x hx).1))
      clear ht7
      go_wp2
      go_roundw
      case rel => exact ⟨k + 1, by omega, by omega, by go_num, by rw [HST2.out]; exact HT7.out⟩
      case measure => simp [intOf]; omega
    · rcases split40 _ _ hlt with h1 | ⟨h1, h2⟩
      all_goals
        go_wp2_with fail
        refine (works _).mono ?_
        rintro x w3 ⟨rfl, b3⟩
        go_wp2
        go_ret
        exact ⟨rfl, up hT.below b3⟩
end Go.Proofs.Ytdijcgjgdfhapaa
