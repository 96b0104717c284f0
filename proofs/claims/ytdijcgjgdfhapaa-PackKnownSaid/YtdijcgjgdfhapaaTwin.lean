/- A reader of the program and one of the reference, side by side. -/
import Derived.Test.YtdijcgjgdfhapaaAsk
namespace Go.Proofs.Ytdijcgjgdfhapaa
open Go.RowKit
set_option linter.unusedVariables false

/-- What End answers. -/
def endE (l : List Nat) (p : Nat) (e : Int) : Int := if e = 0 then endV l p else e
theorem end_any (R : Nat → Prop) (g p : Nat) (l : List Nat) (e : Int) (w : World) (h : PR w R g l p e) : Calls Try.prog 30 #[.pointer (some ⟨g, 0, none⟩)] w (Drew w (.int .i64 (endE l p e))) := by
  unfold endE
  by_cases he : e = 0
  · subst he
    rw [if_pos rfl]
    exact end_live R g p l w h
  · rw [if_neg he]
    exact end_stuck _ e w h.re he
theorem rend_any (R : Nat → Prop) (g p : Nat) (l : List Nat) (e : Int) (w : World) (h : QR w R g l p e) : Calls Try.prog 31 #[.pointer (some ⟨g, 0, none⟩)] w (Drew w (.int .i64 (endE l p e))) := by
  unfold endE
  by_cases he : e = 0
  · subst he
    rw [if_pos rfl]
    exact rend_live R g p l w h
  · rw [if_neg he]
    exact rend_stuck R g p l e w h he
/-- Both readers, newer than W, apart from each other. -/
def TR (W w : World) (g g' : Nat) (l : List Nat) (p : Nat) (e : Int) (p' : Nat) (e' : Int) : Prop :=
  ∃ R S, PR w R g l p e ∧ QR w S g' l p' e' ∧ (∀ x, R x → ¬ S x) ∧ (∀ x, R x → W.heap.size ≤ x) ∧ (∀ x, S x → W.heap.size ≤ x) ∧ Below W.heap.size W w
theorem TR.below {W w : World} {g g' p p' : Nat} {l : List Nat} {e e' : Int} (h : TR W w g g' l p e p' e') : Below W.heap.size W w := by obtain ⟨_, _, _, _, _, _, _, h⟩ := h; exact h
theorem TR.later {W w w' : World} {g g' p p' : Nat} {l : List Nat} {e e' : Int} (h : TR W w g g' l p e p' e') (hb : Below w.heap.size w w') : TR W w' g g' l p e p' e' := by
  obtain ⟨R, S, h1, h2, h3, h4, h5, h6⟩ := h
  exact ⟨R, S, h1.later hb, h2.later hb, h3, h4, h5, up h6 hb⟩
theorem TR.drewN {W w : World} {g g' p p' : Nat} {l : List Nat} {e e' : Int} (h : TR W w g g' l p e p' e') (n : Nat) : TR W (w.drewN n) g g' l p e p' e' := by
  obtain ⟨R, S, h1, h2, h3, h4, h5, h6⟩ := h
  exact ⟨R, S, h1, h2, h3, h4, h5, below_drewN h6 n⟩
theorem TR.re {W w : World} {g g' p p' : Nat} {l : List Nat} {e e' : Int} (h : TR W w g g' l p e p' e') : RE w (.pointer (some ⟨g, 0, none⟩)) e := by obtain ⟨_, _, h, _⟩ := h; exact h.re
theorem TR.ask {W w : World} {g g' p p' q f : Nat} {l : List Nat} {e e' d z : Int} {s : ByteArray} {args : Array Value} (h : TR W w g g' l p e p' e') (c : ∀ R, PR w R g l p e → Calls Try.prog f args w (AskP w R g l q d z s)) :
    Calls Try.prog f args w fun x w' => x = .returned (.tuple #[.int .u64 z, .string s]) ∧ TR W w' g g' l q d p' e' := by
  obtain ⟨R, S, h1, h2, h3, h4, h5, h6⟩ := h
  refine (c R h1).mono fun x w' hx => ?_
  obtain ⟨rfl, hP, hT⟩ := hx
  exact ⟨rfl, R, S, hP, h2.touch hT (fun k hk hk2 => h3 k hk2 hk), h3, h4, h5, below_touch h6 h4 hT⟩
theorem TR.answer {W w : World} {g g' p p' q f : Nat} {l : List Nat} {e e' d z : Int} {s : ByteArray} {args : Array Value} (h : TR W w g g' l p e p' e') (c : ∀ S, QR w S g' l p' e' → Calls Try.prog f args w (AskQ w S g' l q d z s)) :
    Calls Try.prog f args w fun x w' => x = .returned (.tuple #[.int .u64 z, .string s]) ∧ TR W w' g g' l p e q d := by
  obtain ⟨R, S, h1, h2, h3, h4, h5, h6⟩ := h
  refine (c S h2).mono fun x w' hx => ?_
  obtain ⟨rfl, hP, hT⟩ := hx
  exact ⟨rfl, R, S, h1.touch hT (fun k hk hk2 => h3 k hk hk2), hP, h3, h4, h5, below_touch h6 h5 hT⟩
theorem tr_cells {W w : World} {g g' p p' : Nat} {l : List Nat} {e e' : Int} (h : TR W w g g' l p e p' e') : w.cell? ⟨g', 1, none⟩ = some (.int .i64 (p' : Int)) ∧ w.cell? ⟨g', 2, none⟩ = some (.int .i64 e') := by
  obtain ⟨R, S, _, h2, _⟩ := h
  exact ⟨h2.c1, h2.c2⟩
theorem tr_at {W w : World} {g g' p p' : Nat} {l : List Nat} {e e' : Int} (h : TR W w g g' l p e p' e') : Calls Try.prog 27 #[.pointer (some ⟨g, 0, none⟩)] w fun x w' => x = .returned (.int .i64 (p : Int)) ∧ w' = w := by
  obtain ⟨R, S, P, -⟩ := h
  exact (at_ R g p l e w P).mono fun _ _ h => ⟨h.1, h.2.symm⟩
theorem tr_left {W w : World} {g g' p p' : Nat} {l : List Nat} {e e' : Int} (h : TR W w g g' l p e p' e') : Calls Try.prog 28 #[.pointer (some ⟨g, 0, none⟩)] w fun x w' => x = .returned (.int .i64 ((l.length : Int) - (p : Int))) ∧ ∃ m, w' = w.drewN m := by
  obtain ⟨R, S, P, -⟩ := h
  exact (left R g p l e w P).mono fun _ _ ⟨n, h, h'⟩ => ⟨h, n, h'⟩
theorem tr_rleft {W w : World} {g g' p p' : Nat} {l : List Nat} {e e' : Int} (h : TR W w g g' l p e p' e') : Calls Try.prog 29 #[.pointer (some ⟨g', 0, none⟩)] w fun x w' => x = .returned (.int .i64 ((l.length : Int) - (p' : Int))) ∧ ∃ m, w' = w.drewN m := by
  obtain ⟨R, S, _, P, -⟩ := h
  exact (rleft S g' p' l e' w P).mono fun _ _ ⟨n, h, h'⟩ => ⟨h, n, h'⟩
theorem tr_end {W w : World} {g g' p p' : Nat} {l : List Nat} {e e' : Int} (h : TR W w g g' l p e p' e') : Calls Try.prog 30 #[.pointer (some ⟨g, 0, none⟩)] w fun x w' => x = .returned (.int .i64 (endE l p e)) ∧ ∃ m, w' = w.drewN m := by
  obtain ⟨R, S, P, -⟩ := h
  exact (end_any R g p l e w P).mono fun _ _ ⟨n, h, h'⟩ => ⟨h, n, h'⟩
theorem tr_rend {W w : World} {g g' p p' : Nat} {l : List Nat} {e e' : Int} (h : TR W w g g' l p e p' e') : Calls Try.prog 31 #[.pointer (some ⟨g', 0, none⟩)] w fun x w' => x = .returned (.int .i64 (endE l p' e')) ∧ ∃ m, w' = w.drewN m := by
  obtain ⟨R, S, _, P, -⟩ := h
  exact (rend_any S g' p' l e' w P).mono fun _ _ ⟨n, h, h'⟩ => ⟨h, n, h'⟩
theorem PR.reach {w : World} {R : Nat → Prop} {g p : Nat} {l : List Nat} {e : Int} (h : PR w R g l p e) : ∀ x, R x → x < w.heap.size := h.glt.2.2
theorem QR.reach {w : World} {R : Nat → Prop} {g p : Nat} {l : List Nat} {e : Int} (h : QR w R g l p e) : ∀ x, R x → x < w.heap.size := h.glt.2.2
/-- The cells of an ask, once more, in a later world. -/
theorem RdAk.again {W w : World} {b off n c : Nat} {l : List Ak} {p : Ak} (h : RdAk W W.heap.size (.slice (some ⟨b, off, none⟩) n c) l) (hb : Below W.heap.size W w) {i : Nat} (hi : i < l.length) (hp : l[i]? = some p) :
    w.cell? ⟨b, off + i * 2, none⟩ = some (.int .i64 p.k) ∧ w.cell? ⟨b, off + i * 2 + 1, none⟩ = some (.int .i64 p.n) := by
  obtain ⟨b', off', p', e', hp', _, h0, h1⟩ := h.at hb hi
  obtain rfl : p' = p := Option.some.inj (hp'.symm.trans hp)
  injection e' with e'
  injection e' with e1 e2
  subst e1 e2
  exact ⟨h0, h1⟩
/-- One ask of both, live or not: they answer alike. -/
def BothP (W w : World) (g g' : Nat) (l : List Nat) (z : Int) (s : ByteArray) (p : Nat) (e : Int) (q : Nat) (d : Int) (x : Ending) (w' : World) : Prop := x = .returned (.tuple #[.int .u64 z, .string s]) ∧ TR W w' g g' l q d p e
theorem both_ask {W w : World} {g g' p : Nat} {l : List Nat} {e : Int} (k n : Int) (h : TR W w g g' l p e p e) (k0 : -9223372036854775808 ≤ k) (k1 : k ≤ 9223372036854775807) (n0 : -9223372036854775808 ≤ n) (n1 : n ≤ 9223372036854775807) :
    ∃ z s q d, Calls Try.prog 24 #[.pointer (some ⟨g, 0, none⟩), .agg #[.int .i64 k, .int .i64 n]] w (BothP W w g g' l z s p e q d) ∧
      ∀ w', TR W w' g g' l q d p e → Calls Try.prog 25 #[.pointer (some ⟨g', 0, none⟩), .agg #[.int .i64 k, .int .i64 n]] w' (BothP W w' g g' l z s q d q d) := by
  by_cases he : e = 0
  · subst he
    exact ⟨_, _, _, _, h.ask fun R P => asked R g p l k n w P k0 k1 n0 n1, fun w' h' => h'.answer fun S P => answer S g' p l k n w' P k0 k1 n0 n1⟩
  · refine ⟨0, ByteArray.empty, p, e, (asked_stuck _ e k n w h.re he k0 k1 n0 n1).mono fun x w' hx => ?_, fun w' h' => h'.answer fun S P => answer_stuck S g' p l e k n w' P he k0 k1 n0 n1⟩
    exact ⟨hx.1, h.later hx.2⟩
end Go.Proofs.Ytdijcgjgdfhapaa
