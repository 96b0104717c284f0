/- Readers of the program and of the reference: what they are; Err, At, Left, End, Fail, rest; how they are made. -/
import Derived.Test.YtdijcgjgdfhapaaDone
namespace Go.Proofs.Ytdijcgjgdfhapaa
open Go.RowKit
set_option linter.unusedVariables false

/-- A reader of the program, at block g; its blocks are R: the bytes l, the place p, the error e. -/
def PR (w : World) (R : Nat → Prop) (g : Nat) (l : List Nat) (p : Nat) (e : Int) : Prop :=
  ∃ v, Blk w g 71 [.bool true, v, .int .i64 e, .int .i64 (p : Int)] ∧ Own w 0 v l ∧ R g ∧ (∀ k, v.ownBlock = some k → R k ∧ k ≠ g) ∧ (∀ k, R k → k < w.heap.size) ∧ p ≤ l.length ∧ l.length ≤ 100000
/-- A reader of the reference. -/
def QR (w : World) (R : Nat → Prop) (g : Nat) (l : List Nat) (p : Nat) (e : Int) : Prop :=
  ∃ v, Blk w g 56 [v, .int .i64 (p : Int), .int .i64 e] ∧ Own w 0 v l ∧ R g ∧ (∀ k, v.ownBlock = some k → R k ∧ k ≠ g) ∧ (∀ k, R k → k < w.heap.size) ∧ p ≤ l.length ∧ l.length ≤ 100000
theorem PR.touch {S R : Nat → Prop} {w w' : World} {g p : Nat} {l : List Nat} {e : Int} (h : PR w R g l p e) (ht : Touch S w w') (hn : ∀ k, R k → ¬ S k) : PR w' R g l p e := by
  obtain ⟨v, hb, ho, hg, hv, hR, hp⟩ := h
  exact ⟨v, hb.touch ht (hn g hg), ho.touch ht (fun k hk => hn k (hv k hk).1), hg, hv, fun k hk => Nat.lt_of_lt_of_le (hR k hk) ht.size, hp⟩
theorem QR.touch {S R : Nat → Prop} {w w' : World} {g p : Nat} {l : List Nat} {e : Int} (h : QR w R g l p e) (ht : Touch S w w') (hn : ∀ k, R k → ¬ S k) : QR w' R g l p e := by
  obtain ⟨v, hb, ho, hg, hv, hR, hp⟩ := h
  exact ⟨v, hb.touch ht (hn g hg), ho.touch ht (fun k hk => hn k (hv k hk).1), hg, hv, fun k hk => Nat.lt_of_lt_of_le (hR k hk) ht.size, hp⟩
theorem PR.later {R : Nat → Prop} {w w' : World} {g p : Nat} {l : List Nat} {e : Int} (h : PR w R g l p e) (hb : Below w.heap.size w w') : PR w' R g l p e :=
  h.touch (Touch.of_below (S := fun _ => False) hb) (fun _ _ hf => hf)
theorem QR.later {R : Nat → Prop} {w w' : World} {g p : Nat} {l : List Nat} {e : Int} (h : QR w R g l p e) (hb : Below w.heap.size w w') : QR w' R g l p e :=
  h.touch (Touch.of_below (S := fun _ => False) hb) (fun _ _ hf => hf)
theorem PR.drewN {R : Nat → Prop} {w : World} {g p : Nat} {l : List Nat} {e : Int} (n : Nat) (h : PR w R g l p e) : PR (w.drewN n) R g l p e := h
theorem QR.drewN {R : Nat → Prop} {w : World} {g p : Nat} {l : List Nat} {e : Int} (n : Nat) (h : QR w R g l p e) : QR (w.drewN n) R g l p e := h
theorem PR.at {R : Nat → Prop} {w : World} {g p : Nat} {l : List Nat} {e : Int} (h : PR w R g l p e) : p ≤ l.length := by obtain ⟨v, _, _, _, _, _, h1, _⟩ := h; exact h1
theorem PR.len {R : Nat → Prop} {w : World} {g p : Nat} {l : List Nat} {e : Int} (h : PR w R g l p e) : l.length ≤ 100000 := by obtain ⟨v, _, _, _, _, _, _, h1⟩ := h; exact h1
theorem QR.at {R : Nat → Prop} {w : World} {g p : Nat} {l : List Nat} {e : Int} (h : QR w R g l p e) : p ≤ l.length := by obtain ⟨v, _, _, _, _, _, h1, _⟩ := h; exact h1
theorem QR.len {R : Nat → Prop} {w : World} {g p : Nat} {l : List Nat} {e : Int} (h : QR w R g l p e) : l.length ≤ 100000 := by obtain ⟨v, _, _, _, _, _, _, h1⟩ := h; exact h1
theorem PR.bytes {R : Nat → Prop} {w : World} {g p : Nat} {l : List Nat} {e : Int} (h : PR w R g l p e) : ∀ x ∈ l, x < 256 := by obtain ⟨v, _, ho, _⟩ := h; exact ho.2

/-- The place and the error are stored. -/
theorem PR.moved {R : Nat → Prop} {w : World} {g p q : Nat} {l : List Nat} {e : Int} (h : PR w R g l p e) (hq : q ≤ l.length) : PR (w.setCell ⟨g, 3, none⟩ (.int .i64 (q : Int))) R g l q e ∧ Touch R w (w.setCell ⟨g, 3, none⟩ (.int .i64 (q : Int))) := by
  obtain ⟨v, hb, ho, hg, hv, hR, hp, hl⟩ := h
  exact ⟨⟨v, hb.put 3 _, ho.touch ((Touch.refl (fun k => k = g) w).setCell (p := ⟨g, 3, none⟩) rfl _) (fun k hk => (hv k hk).2), hg, hv, fun k hk => by rw [size_setCell]; exact hR k hk, hq, hl⟩, (Touch.refl R w).setCell (p := ⟨g, 3, none⟩) hg _⟩
theorem PR.failed {R : Nat → Prop} {w : World} {g p : Nat} {l : List Nat} {e : Int} (h : PR w R g l p e) (e' : Int) : PR (w.setCell ⟨g, 2, none⟩ (.int .i64 e')) R g l p e' ∧ Touch R w (w.setCell ⟨g, 2, none⟩ (.int .i64 e')) := by
  obtain ⟨v, hb, ho, hg, hv, hR, hp, hl⟩ := h
  exact ⟨⟨v, hb.put 2 _, ho.touch ((Touch.refl (fun k => k = g) w).setCell (p := ⟨g, 2, none⟩) rfl _) (fun k hk => (hv k hk).2), hg, hv, fun k hk => by rw [size_setCell]; exact hR k hk, hp, hl⟩, (Touch.refl R w).setCell (p := ⟨g, 2, none⟩) hg _⟩
theorem QR.moved {R : Nat → Prop} {w : World} {g p q : Nat} {l : List Nat} {e : Int} (h : QR w R g l p e) (hq : q ≤ l.length) : QR (w.setCell ⟨g, 1, none⟩ (.int .i64 (q : Int))) R g l q e ∧ Touch R w (w.setCell ⟨g, 1, none⟩ (.int .i64 (q : Int))) := by
  obtain ⟨v, hb, ho, hg, hv, hR, hp, hl⟩ := h
  exact ⟨⟨v, hb.put 1 _, ho.touch ((Touch.refl (fun k => k = g) w).setCell (p := ⟨g, 1, none⟩) rfl _) (fun k hk => (hv k hk).2), hg, hv, fun k hk => by rw [size_setCell]; exact hR k hk, hq, hl⟩, (Touch.refl R w).setCell (p := ⟨g, 1, none⟩) hg _⟩
theorem QR.failed {R : Nat → Prop} {w : World} {g p : Nat} {l : List Nat} {e : Int} (h : QR w R g l p e) (e' : Int) : QR (w.setCell ⟨g, 2, none⟩ (.int .i64 e')) R g l p e' ∧ Touch R w (w.setCell ⟨g, 2, none⟩ (.int .i64 e')) := by
  obtain ⟨v, hb, ho, hg, hv, hR, hp, hl⟩ := h
  exact ⟨⟨v, hb.put 2 _, ho.touch ((Touch.refl (fun k => k = g) w).setCell (p := ⟨g, 2, none⟩) rfl _) (fun k hk => (hv k hk).2), hg, hv, fun k hk => by rw [size_setCell]; exact hR k hk, hp, hl⟩, (Touch.refl R w).setCell (p := ⟨g, 2, none⟩) hg _⟩

/-- A reader, or none, whose error is e. -/
def RE (w : World) (v : Value) (e : Int) : Prop :=
  (v = .pointer none ∧ e = 1) ∨ ∃ g m x, v = .pointer (some ⟨g, 0, none⟩) ∧ g < w.heap.size ∧ w.cell? ⟨g, 0, none⟩ = some (.bool m) ∧ w.cell? ⟨g, 2, none⟩ = some (.int .i64 x) ∧ (if m = true then x else 1) = e
theorem RE.later {w w' : World} {v : Value} {e : Int} (h : RE w v e) (hb : Below w.heap.size w w') : RE w' v e := by
  rcases h with h | ⟨g, m, x, rfl, hg, h0, h2, he⟩
  · exact .inl h
  · exact .inr ⟨g, m, x, rfl, Nat.lt_of_lt_of_le hg hb.size, (hb.cell (p := ⟨g, 0, none⟩) hg).trans h0, (hb.cell (p := ⟨g, 2, none⟩) hg).trans h2, he⟩
theorem PR.re {R : Nat → Prop} {w : World} {g p : Nat} {l : List Nat} {e : Int} (h : PR w R g l p e) : RE w (.pointer (some ⟨g, 0, none⟩)) e := by
  obtain ⟨v, hb, -⟩ := h
  have h0 := hb.cell 0
  have h2 := hb.cell 2
  simp at h0 h2
  exact .inr ⟨g, true, e, rfl, hb.lt, h0, h2, by simp⟩
/-- A reader that is none: nil, or a zero one. -/
def RN (w : World) (v : Value) : Prop := v = .pointer none ∨ ∃ g, v = .pointer (some ⟨g, 0, none⟩) ∧ Blk w g 71 [.bool false, .slice none 0 0, .int .i64 0, .int .i64 0]
theorem RN.later {w w' : World} {v : Value} (h : RN w v) (hb : Below w.heap.size w w') : RN w' v := by
  rcases h with h | ⟨g, rfl, h⟩
  · exact .inl h
  · exact .inr ⟨g, rfl, h.later hb⟩
theorem RN.re {w : World} {v : Value} (h : RN w v) : RE w v 1 := by
  rcases h with h | ⟨g, rfl, hb⟩
  · exact .inl ⟨h, rfl⟩
  · have h0 := hb.cell 0
    have h2 := hb.cell 2
    simp at h0 h2
    exact .inr ⟨g, false, 0, rfl, hb.lt, h0, h2, by simp⟩

set_option maxHeartbeats 400000 in
theorem err (v : Value) (e : Int) (w : World) (h : RE w v e) : Calls Try.prog 26 #[v] w fun x w' => x = .returned (.int .i64 e) ∧ w = w' := by
  rcases h with ⟨rfl, rfl⟩ | ⟨g, m, x, rfl, hg, h0, h2, he⟩
  · go_enter Try.func26, Try.ntmps26
    go_wp2
    go_ret
    exact ⟨rfl, rfl⟩
  · have HE := Lib.hid he
    clear he
    go_enter Try.func26, Try.ntmps26
    go_wp2_with fail
    refine (trouble g m x e _ h0 h2 HE.out).mono ?_
    rintro y w1 ⟨rfl, rfl⟩
    go_wp2
    go_ret
    exact ⟨rfl, rfl⟩
set_option maxHeartbeats 400000 in
theorem fail_stuck (v : Value) (e c : Int) (w : World) (h : RE w v e) (hne : e ≠ 0) : Calls Try.prog 36 #[v, .int .i64 c] w fun x w' => x = .returned undef ∧ w = w' := by
  have hb : (e == 0) = false := by simpa using hne
  rcases h with ⟨rfl, rfl⟩ | ⟨g, m, x, rfl, hg, h0, h2, he⟩
  · go_enter Try.func36, Try.ntmps36
    go_wp2
    go_end0
    exact ⟨rfl, rfl⟩
  · have HE := Lib.hid he
    clear he hne
    have hf : Calls Try.prog 69 #[.pointer (some ⟨g, 0, none⟩), .int .i64 c] w fun x w' => x = .returned undef ∧ w = w' := by
      go_enter Try.func69, Try.ntmps69
      go_wp2_with fail
      refine (trouble g m x e _ h0 h2 HE.out).mono ?_
      rintro y w1 ⟨rfl, rfl⟩
      go_wp2
      go_end0
      exact ⟨rfl, rfl⟩
    have HF := Lib.hid hf
    clear hf
    go_enter Try.func36, Try.ntmps36
    go_wp2_with fail
    refine (HF.out).mono ?_
    rintro y w1 ⟨rfl, rfl⟩
    go_wp2
    go_end0
    exact ⟨rfl, rfl⟩
/-- How a call that changes a reader leaves things. -/
def PMove (w : World) (R : Nat → Prop) (g : Nat) (l : List Nat) (p : Nat) (e : Int) (z : Value) (x : Ending) (w' : World) : Prop := x = .returned z ∧ PR w' R g l p e ∧ Touch R w w'
def QMove (w : World) (R : Nat → Prop) (g : Nat) (l : List Nat) (p : Nat) (e : Int) (z : Value) (x : Ending) (w' : World) : Prop := x = .returned z ∧ QR w' R g l p e ∧ Touch R w w'
set_option maxHeartbeats 400000 in
theorem held_fail (R : Nat → Prop) (g p : Nat) (l : List Nat) (c : Int) (w : World) (h : PR w R g l p 0) : Calls Try.prog 69 #[.pointer (some ⟨g, 0, none⟩), .int .i64 c] w (PMove w R g l p c undef) := by
  have H := Lib.hid h
  obtain ⟨v, hb, -⟩ := h
  have h0 := hb.cell 0
  have h2 := hb.cell 2
  have hf := hb.frozen 2
  simp at h0 h2
  go_enter Try.func69, Try.ntmps69
  go_wp2_with fail
  refine (trouble g true 0 0 _ h0 h2 rfl).mono ?_
  rintro y w1 ⟨rfl, rfl⟩
  go_wp2
  go_end0
  exact ⟨rfl, H.out.failed c⟩
set_option maxHeartbeats 400000 in
theorem fail_live (R : Nat → Prop) (g p : Nat) (l : List Nat) (c : Int) (w : World) (h : PR w R g l p 0) : Calls Try.prog 36 #[.pointer (some ⟨g, 0, none⟩), .int .i64 c] w (PMove w R g l p c undef) := by
  have H := Lib.hid h
  clear h
  go_enter Try.func36, Try.ntmps36
  go_wp2_with fail
  refine (held_fail R g p l c _ H.out).mono ?_
  rintro y w1 ⟨rfl, h1⟩
  have H1 := Lib.hid h1
  clear h1
  go_wp2
  go_end0
  exact ⟨rfl, H1.out⟩
set_option maxHeartbeats 400000 in
theorem at_ (R : Nat → Prop) (g p : Nat) (l : List Nat) (e : Int) (w : World) (h : PR w R g l p e) : Calls Try.prog 27 #[.pointer (some ⟨g, 0, none⟩)] w fun x w' => x = .returned (.int .i64 (p : Int)) ∧ w = w' := by
  obtain ⟨v, hb, -⟩ := h
  have h3 := hb.cell 3
  simp at h3
  go_enter Try.func27, Try.ntmps27
  go_wp2
  go_ret
  exact ⟨rfl, rfl⟩
set_option maxHeartbeats 400000 in
theorem at_none (v : Value) (w : World) (h : RN w v) : Calls Try.prog 27 #[v] w fun x w' => x = .returned (.int .i64 0) ∧ w = w' := by
  rcases h with rfl | ⟨g, rfl, hb⟩
  · go_enter Try.func27, Try.ntmps27
    go_wp2
    go_ret
    exact ⟨rfl, rfl⟩
  · have h3 := hb.cell 3
    simp at h3
    go_enter Try.func27, Try.ntmps27
    go_wp2
    go_ret
    exact ⟨rfl, rfl⟩
/-- It answers z, and has only drawn. -/
def Drew (w : World) (z : Value) (x : Ending) (w' : World) : Prop := ∃ n, x = .returned z ∧ w' = w.drewN n
set_option maxHeartbeats 400000 in
theorem left (R : Nat → Prop) (g p : Nat) (l : List Nat) (e : Int) (w : World) (h : PR w R g l p e) : Calls Try.prog 28 #[.pointer (some ⟨g, 0, none⟩)] w (Drew w (.int .i64 ((l.length : Int) - (p : Int)))) := by
  obtain ⟨v, hb, ho, _, _, _, hp, hl⟩ := h
  have h1 := hb.cell 1
  have h3 := hb.cell 3
  simp at h1 h3
  obtain ⟨a, c, rfl, -⟩ := ho.rd
  go_enter Try.func28, Try.ntmps28
  go_wp2
  go_quiet (fail)
  go_wp2
  go_ret
  exact ⟨_, rfl, rfl⟩
set_option maxHeartbeats 400000 in
theorem left_none (v : Value) (w : World) (h : RN w v) : Calls Try.prog 28 #[v] w (Drew w (.int .i64 0)) := by
  rcases h with rfl | ⟨g, rfl, hb⟩
  · go_enter Try.func28, Try.ntmps28
    go_wp2
    go_ret
    exact ⟨0, rfl, rfl⟩
  · have h1 := hb.cell 1
    have h3 := hb.cell 3
    simp at h1 h3
    go_enter Try.func28, Try.ntmps28
    go_wp2
    go_quiet (fail)
    go_wp2
    go_ret
    exact ⟨_, rfl, rfl⟩
end Go.Proofs.Ytdijcgjgdfhapaa
