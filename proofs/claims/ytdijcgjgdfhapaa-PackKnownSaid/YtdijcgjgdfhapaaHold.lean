/- A writer, or a reader, of the program that is newer than a world: what each call makes of it. -/
import Derived.Test.YtdijcgjgdfhapaaRref
namespace Go.Proofs.Ytdijcgjgdfhapaa
open Go.RowKit
set_option linter.unusedVariables false

theorem below_touch {W w1 w2 : World} {R : Nat → Prop} (h : Below W.heap.size W w1) (hR : ∀ k, R k → W.heap.size ≤ k) (ht : Touch R w1 w2) : Below W.heap.size W w2 := h.trans (ht.below h.size hR)
theorem eq_yes (v u : Value) (l r : List Nat) (w : World) (hv : Rd w w.heap.size v l) (hu : Rd w w.heap.size u r) (h : l = r) :
    Calls Try.prog 18 #[v, u] w fun e w' => e = .returned (.bool true) ∧ w = w' :=
  (eqBytes v u l r w hv hu).mono fun _ _ ⟨he, hw⟩ => ⟨he.trans (by rw [decide_eq_true h]), hw⟩
/-- A writer newer than W. -/
def WW (W w : World) (g m : Nat) (s : Bool × List Nat) : Prop := ∃ R, PW w R g m s ∧ Below W.heap.size W w ∧ ∀ k, R k → W.heap.size ≤ k
theorem WW.below {W w : World} {g m : Nat} {s : Bool × List Nat} (h : WW W w g m s) : Below W.heap.size W w := by obtain ⟨_, _, h, _⟩ := h; exact h
theorem WW.later {W w w' : World} {g m : Nat} {s : Bool × List Nat} (h : WW W w g m s) (hb : Below w.heap.size w w') : WW W w' g m s := by
  obtain ⟨R, h1, h2, h3⟩ := h
  exact ⟨R, h1.later hb, up h2 hb, h3⟩
theorem WW.calls {W w : World} {g m f : Nat} {s s' : Bool × List Nat} {args : Array Value} (h : WW W w g m s) (c : ∀ R, PW w R g m s → Calls Try.prog f args w (PPut w R g m s')) :
    Calls Try.prog f args w fun x w' => x = .returned undef ∧ WW W w' g m s' := by
  obtain ⟨R, h1, h2, h3⟩ := h
  refine (c R h1).mono fun x w' hx => ?_
  obtain ⟨rfl, R', hP, hT, hR⟩ := hx
  exact ⟨rfl, R', hP, below_touch h2 h3 hT, fun k hk => (hR k hk).elim (h3 k) (Nat.le_trans h2.size)⟩
theorem ww_new (W : World) (m : Int) (w : World) (hb : Below W.heap.size W w) (h0 : -9223372036854775808 ≤ m) (h1 : m ≤ 9223372036854775807) :
    Calls Try.prog 11 #[.int .i64 m] w fun x w' => x = .returned (.pointer (some ⟨w.heap.size, 0, none⟩)) ∧ WW W w' w.heap.size (max m 0).toNat (false, []) :=
  (newWriter m w h0 h1).mono fun _ _ ⟨hx, hP, hB⟩ => ⟨hx, _, hP, up hb hB, fun k hk => by subst hk; exact hb.size⟩
/-- A writer is made, and no name of its block is told. -/
def NewWP (W : World) (m : Nat) (x : Ending) (w' : World) : Prop := ∃ g, x = .returned (.pointer (some ⟨g, 0, none⟩)) ∧ WW W w' g m (false, [])
theorem ww_made (W : World) (m : Int) (n : Nat) (w : World) (hb : Below W.heap.size W w) (h0 : -9223372036854775808 ≤ m) (h1 : m ≤ 9223372036854775807) (hn : (max m 0).toNat = n) :
    Calls Try.prog 11 #[.int .i64 m] w (NewWP W n) := by
  subst hn
  exact (ww_new W m w hb h0 h1).mono fun _ _ ⟨hx, h⟩ => ⟨_, hx, h⟩
theorem ww_byte {W w : World} {g m : Nat} {f : Bool} {l : List Nat} (s' : Bool × List Nat) (c : Nat) (z : Int) (h : WW W w g m (f, l)) (hm : (m : Int) ≤ 9223372036854775807) (hl : l.length ≤ 100000000) (hz : (c : Int) = z) (hc : c < 256) (hs : puts m f l [c] = s') :
    Calls Try.prog 37 #[.pointer (some ⟨g, 0, none⟩), .int .u8 z] w fun x w' => x = .returned undef ∧ WW W w' g m s' := by
  subst hs hz
  exact h.calls fun R P => wByte g m f l c R w P hm hl hc
theorem ww_int {W w : World} {g m : Nat} {f : Bool} {l : List Nat} (s' : Bool × List Nat) (z : Int) (h : WW W w g m (f, l)) (hm : (m : Int) ≤ 9223372036854775807) (hl : l.length ≤ 100000000) (h0 : -9223372036854775808 ≤ z) (h1 : z ≤ 9223372036854775807) (hs : puts m f l (Leb.enc (zigN z).toNat) = s') :
    Calls Try.prog 39 #[.pointer (some ⟨g, 0, none⟩), .int .i64 z] w fun x w' => x = .returned undef ∧ WW W w' g m s' := by
  subst hs
  exact h.calls fun R P => wInt g m f l z R w P hm hl h0 h1
theorem ww_text {W w : World} {g m : Nat} {f : Bool} {l : List Nat} (s' : Bool × List Nat) (s : ByteArray) (h : WW W w g m (f, l)) (hm : (m : Int) ≤ 9223372036854775807) (hl : l.length ≤ 100000000) (hz : s.size ≤ 100000) (hs : puts m f l (Leb.enc s.size ++ bl s) = s') :
    Calls Try.prog 40 #[.pointer (some ⟨g, 0, none⟩), .string s] w fun x w' => x = .returned undef ∧ WW W w' g m s' := by
  subst hs
  exact h.calls fun R P => wText g m f l s R w P hm hl hz
theorem ww_word {W w : World} {g m : Nat} {f : Bool} {l : List Nat} (s' : Bool × List Nat) (c : Nat) (z : Int) (h : WW W w g m (f, l)) (hm : (m : Int) ≤ 9223372036854775807) (hl : l.length ≤ 100000000) (hz : (c : Int) = z) (hc : z ≤ 4294967295) (hs : puts m f l (wordL c) = s') :
    Calls Try.prog 43 #[.pointer (some ⟨g, 0, none⟩), .int .u32 z] w fun x w' => x = .returned undef ∧ WW W w' g m s' := by
  subst hs hz
  exact h.calls fun R P => wWord g m f l c R w P hm hl hc
theorem ww_len {W w : World} {g m : Nat} {f : Bool} {l : List Nat} (n : Int) (h : WW W w g m (f, l)) (hn : (l.length : Int) = n) :
    Calls Try.prog 17 #[.pointer (some ⟨g, 0, none⟩)] w fun x w' => x = .returned (.int .i64 n) ∧ w = w' := by
  subst hn
  obtain ⟨R, P, -⟩ := h
  exact wLen g m f l R w P
/-- Done of a writer that is not full, and of a full one. -/
def DoneY (w : World) (l : List Nat) (e : Int) (x : Ending) (w' : World) : Prop := ∃ r, x = .returned (.tuple #[r, .int .i64 e]) ∧ Own w' w.heap.size r l ∧ Below w.heap.size w w'
theorem ww_done {W w : World} {g m : Nat} {f : Bool} {l : List Nat} (r : List Nat) (e : Int) (h : WW W w g m (f, l)) (hl : l.length ≤ 100000000) (hr : (if f = true then [] else l) = r) (he : (if f = true then (5 : Int) else 0) = e) :
    Calls Try.prog 15 #[.pointer (some ⟨g, 0, none⟩)] w (DoneY w r e) := by
  subst hr he
  obtain ⟨R, P, -⟩ := h
  exact wDone g m f l R w P hl

/-- A reader newer than W. -/
def WP (W w : World) (g : Nat) (l : List Nat) (p : Nat) (e : Int) : Prop := ∃ R, PR w R g l p e ∧ Below W.heap.size W w ∧ ∀ k, R k → W.heap.size ≤ k
theorem WP.below {W w : World} {g p : Nat} {l : List Nat} {e : Int} (h : WP W w g l p e) : Below W.heap.size W w := by obtain ⟨_, _, h, _⟩ := h; exact h
theorem WP.later {W w w' : World} {g p : Nat} {l : List Nat} {e : Int} (h : WP W w g l p e) (hb : Below w.heap.size w w') : WP W w' g l p e := by
  obtain ⟨R, h1, h2, h3⟩ := h
  exact ⟨R, h1.later hb, up h2 hb, h3⟩
theorem WP.drewN {W w : World} {g p : Nat} {l : List Nat} {e : Int} (h : WP W w g l p e) (n : Nat) : WP W (w.drewN n) g l p e := by
  obtain ⟨R, h1, h2, h3⟩ := h
  exact ⟨R, h1, ⟨h2.os, h2.tape, h2.output, h2.size, h2.block⟩, h3⟩
theorem WP.re {W w : World} {g p : Nat} {l : List Nat} {e : Int} (h : WP W w g l p e) : RE w (.pointer (some ⟨g, 0, none⟩)) e := by obtain ⟨_, h, _⟩ := h; exact h.re
theorem WP.calls {W w : World} {g p p' f : Nat} {l : List Nat} {e e' : Int} {z : Value} {args : Array Value} (h : WP W w g l p e) (c : ∀ R, PR w R g l p e → Calls Try.prog f args w (PMove w R g l p' e' z)) :
    Calls Try.prog f args w fun x w' => x = .returned z ∧ WP W w' g l p' e' := by
  obtain ⟨R, h1, h2, h3⟩ := h
  refine (c R h1).mono fun x w' hx => ?_
  obtain ⟨rfl, hP, hT⟩ := hx
  exact ⟨rfl, R, hP, below_touch h2 h3 hT, h3⟩
/-- A reader is made. -/
def NewRP (W : World) (l : List Nat) (x : Ending) (w' : World) : Prop := ∃ g, x = .returned (.pointer (some ⟨g, 0, none⟩)) ∧ WP W w' g l 0 0
theorem wp_new (W : World) (u : Value) (l : List Nat) (w : World) (hb : Below W.heap.size W w) (h : Rd w w.heap.size u l) (hl : l.length ≤ 100000) :
    Calls Try.prog 22 #[u] w (NewRP W l) := by
  refine (newReader u l w h hl).mono fun x w' hx => ?_
  obtain ⟨g, R, rfl, hP, hB, hR⟩ := hx
  exact ⟨g, rfl, R, hP, up hb hB, fun k hk => Nat.le_trans hb.size (hR k hk)⟩
theorem wp_byte {W w : World} {g p : Nat} {l : List Nat} (q : Nat) (e z : Int) (h : WP W w g l p 0) (hf : (((fByte (l.drop p)).1 : Int), p + (fByte (l.drop p)).2.1, ((fByte (l.drop p)).2.2 : Int)) = (z, q, e)) :
    Calls Try.prog 52 #[.pointer (some ⟨g, 0, none⟩)] w fun x w' => x = .returned (.int .u8 z) ∧ WP W w' g l q e := by
  injection hf with h1 h2
  injection h2 with h2 h3
  subst h1 h2 h3
  exact h.calls fun R P => p_byte R g p l w P
theorem wp_var {W w : World} {g p : Nat} {l : List Nat} (q : Nat) (e z : Int) (h : WP W w g l p 0) (hf : (((Leb.dec (l.drop p)).1 : Int), p + (Leb.dec (l.drop p)).2.1, ((Leb.dec (l.drop p)).2.2 : Int)) = (z, q, e)) :
    Calls Try.prog 54 #[.pointer (some ⟨g, 0, none⟩)] w fun x w' => x = .returned (.int .u64 z) ∧ WP W w' g l q e := by
  injection hf with h1 h2
  injection h2 with h2 h3
  subst h1 h2 h3
  exact h.calls fun R P => p_var R g p l w P
theorem wp_int {W w : World} {g p : Nat} {l : List Nat} (q : Nat) (e z : Int) (h : WP W w g l p 0) (hf : (decI (l.drop p), p + (Leb.dec (l.drop p)).2.1, ((Leb.dec (l.drop p)).2.2 : Int)) = (z, q, e)) :
    Calls Try.prog 55 #[.pointer (some ⟨g, 0, none⟩)] w fun x w' => x = .returned (.int .i64 z) ∧ WP W w' g l q e := by
  injection hf with h1 h2
  injection h2 with h2 h3
  subst h1 h2 h3
  exact h.calls fun R P => p_int R g p l w P
theorem wp_word {W w : World} {g p : Nat} {l : List Nat} (q : Nat) (e z : Int) (h : WP W w g l p 0) (hf : (((fWord (l.drop p)).1 : Int), p + (fWord (l.drop p)).2.1, ((fWord (l.drop p)).2.2 : Int)) = (z, q, e)) :
    Calls Try.prog 56 #[.pointer (some ⟨g, 0, none⟩)] w fun x w' => x = .returned (.int .u32 z) ∧ WP W w' g l q e := by
  injection hf with h1 h2
  injection h2 with h2 h3
  subst h1 h2 h3
  exact h.calls fun R P => p_word R g p l w P
theorem wp_text {W w : World} {g p : Nat} {l : List Nat} (n : Int) (q : Nat) (e : Int) (z : List Nat) (h : WP W w g l p 0) (n0 : -9223372036854775808 ≤ n) (n1 : n ≤ 9223372036854775807) (hf : ((fText n (l.drop p)).1, p + (fText n (l.drop p)).2.1, ((fText n (l.drop p)).2.2 : Int)) = (z, q, e)) :
    Calls Try.prog 53 #[.pointer (some ⟨g, 0, none⟩), .int .i64 n] w fun x w' => x = .returned (.string (str z)) ∧ WP W w' g l q e := by
  injection hf with h1 h2
  injection h2 with h2 h3
  subst h1 h2 h3
  exact h.calls fun R P => p_text R g p l n w P n0 n1
/-- Raw's bytes. -/
def RawY (W w : World) (g : Nat) (l : List Nat) (q : Nat) (e : Int) (z : List Nat) (x : Ending) (w' : World) : Prop := ∃ v, x = .returned v ∧ Own w' w.heap.size v z ∧ WP W w' g l q e
theorem wp_raw {W w : World} {g p : Nat} {l : List Nat} (n : Int) (q : Nat) (e : Int) (z : List Nat) (h : WP W w g l p 0) (n0 : -9223372036854775808 ≤ n) (n1 : n ≤ 9223372036854775807) (hf : ((fRaw n (l.drop p)).1, p + (fRaw n (l.drop p)).2.1, ((fRaw n (l.drop p)).2.2 : Int)) = (z, q, e)) :
    Calls Try.prog 34 #[.pointer (some ⟨g, 0, none⟩), .int .i64 n] w (RawY W w g l q e z) := by
  injection hf with h1 h2
  injection h2 with h2 h3
  subst h1 h2 h3
  obtain ⟨R, h1, h2, h3⟩ := h
  refine (p_raw R g p l n w h1 n0 n1).mono fun x w' hx => ?_
  obtain ⟨v, rfl, hO, hP, hT⟩ := hx
  exact ⟨v, rfl, hO, R, hP, below_touch h2 h3 hT, h3⟩
theorem wp_fail {W w : World} {g p : Nat} {l : List Nat} (c : Int) (h : WP W w g l p 0) :
    Calls Try.prog 36 #[.pointer (some ⟨g, 0, none⟩), .int .i64 c] w fun x w' => x = .returned undef ∧ WP W w' g l p c :=
  h.calls fun R P => fail_live R g p l c w P
theorem wp_at {W w : World} {g p : Nat} {l : List Nat} {e : Int} (h : WP W w g l p e) : Calls Try.prog 27 #[.pointer (some ⟨g, 0, none⟩)] w fun x w' => x = .returned (.int .i64 (p : Int)) ∧ w = w' := by
  obtain ⟨R, P, -⟩ := h
  exact at_ R g p l e w P
theorem wp_left {W w : World} {g p : Nat} {l : List Nat} {e : Int} (n : Int) (h : WP W w g l p e) (hn : (l.length : Int) - (p : Int) = n) : Calls Try.prog 28 #[.pointer (some ⟨g, 0, none⟩)] w (Drew w (.int .i64 n)) := by
  subst hn
  obtain ⟨R, P, -⟩ := h
  exact left R g p l e w P
theorem wp_end {W w : World} {g p : Nat} {l : List Nat} (n : Int) (h : WP W w g l p 0) (hn : endV l p = n) : Calls Try.prog 30 #[.pointer (some ⟨g, 0, none⟩)] w (Drew w (.int .i64 n)) := by
  subst hn
  obtain ⟨R, P, -⟩ := h
  exact end_live R g p l w P
end Go.Proofs.Ytdijcgjgdfhapaa
