/- Done and Len of the writers; bytes that are spoilt. -/
import Derived.Test.YtdijcgjgdfhapaaPiece
import Derived.Laws.OwnMore
import Derived.Laws.Bits64
namespace Go.Proofs.Ytdijcgjgdfhapaa
open Go.RowKit
set_option linter.unusedVariables false

set_option maxHeartbeats 400000 in
theorem wLen (g m : Nat) (f : Bool) (l : List Nat) (R : Nat → Prop) (w : World) (P : PW w R g m (f, l)) :
    Calls Try.prog 17 #[.pointer (some ⟨g, 0, none⟩)] w fun x w' => x = .returned (.int .i64 (l.length : Int)) ∧ w = w' := by
  obtain ⟨v, hb, ho, -⟩ := P
  have h1 := hb.cell 1
  simp at h1
  obtain ⟨a, c, rfl, -⟩ := ho.rd
  go_enter Try.func17, Try.ntmps17
  go_wp2
  go_ret
  exact ⟨rfl, rfl⟩
/-- What Done hands back. -/
def DoneP (w : World) (f : Bool) (l : List Nat) (x : Ending) (w' : World) : Prop :=
  ∃ r, x = .returned (.tuple #[r, .int .i64 (if f = true then 5 else 0)]) ∧ Own w' w.heap.size r (if f = true then [] else l) ∧ Below w.heap.size w w'
set_option maxHeartbeats 400000 in
theorem wDone (g m : Nat) (f : Bool) (l : List Nat) (R : Nat → Prop) (w : World) (P : PW w R g m (f, l)) (hl : l.length ≤ 100000000) :
    Calls Try.prog 15 #[.pointer (some ⟨g, 0, none⟩)] w (DoneP w f l) := by
  obtain ⟨v, hb, ho, -⟩ := P
  have h0 := hb.cell 0
  have h1 := hb.cell 1
  have h2 := hb.cell 2
  cases f
  · simp at h0 h1 h2
    go_enter Try.func15, Try.ntmps15
    go_wp2_with fail
    refine (trouble g true 0 0 _ h0 h2 rfl).mono ?_
    rintro x w' ⟨rfl, rfl⟩
    go_wp2_with fail
    refine (clone v l _ ho.rd hl).mono ?_
    rintro x w1 ⟨r, rfl, ho1, hb1⟩
    go_wp2
    go_ret2
    exact ⟨_, rfl, ho1, hb1⟩
  · simp at h0 h1 h2
    go_enter Try.func15, Try.ntmps15
    go_wp2_with fail
    refine (trouble g true 5 5 _ h0 h2 rfl).mono ?_
    rintro x w' ⟨rfl, rfl⟩
    go_wp2
    go_ret2
    exact ⟨_, rfl, Own.nil _ _, Below.refl _ _⟩
set_option maxHeartbeats 400000 in
theorem rDone (g m : Nat) (f : Bool) (l : List Nat) (R : Nat → Prop) (w : World) (P : RW w R g m (f, l)) (hl : l.length ≤ 1000000) :
    Calls Try.prog 16 #[.pointer (some ⟨g, 0, none⟩)] w (DoneP w f l) := by
  obtain ⟨v, hb, ho, -⟩ := P
  have h0 := hb.cell 0
  have h2 := hb.cell 2
  cases f
  · simp at h0 h2
    go_enter Try.func16, Try.ntmps16
    go_wp2_with fail
    refine (copyBytes v l _ ho.rd hl).mono ?_
    rintro x w1 ⟨r, rfl, ho1, hb1⟩
    go_wp2
    go_ret2
    exact ⟨_, rfl, ho1, hb1⟩
  · simp at h0 h2
    go_enter Try.func16, Try.ntmps16
    go_wp2
    go_ret2
    exact ⟨_, rfl, Own.nil _ _, Below.refl _ _⟩

/-- Owned bytes, one of them stored. -/
theorem Own.stored {w : World} {base g cap n : Nat} {l : List Nat} (h : Own w base (.slice (some ⟨g, 0, none⟩) n cap) l) (hn : l.length = n) (k x : Nat) (hx : x < 256) :
    Own (w.setCell ⟨g, k, none⟩ (.int .u8 (x : Int))) base (.slice (some ⟨g, 0, none⟩) n cap) (l.set k x) := by
  subst hn
  refine ⟨?_, fun y hy => ?_⟩
  · have := (h.1.stored k (.int .u8 (x : Int))).1
    rw [List.length_set]
    unfold vals at this ⊢
    rw [List.map_set]
    exact this
  · rcases List.mem_or_eq_of_mem_set hy with hy | rfl
    · exact h.2 y hy
    · exact hx
theorem Own.form {w : World} {base : Nat} {v : Value} {l : List Nat} (h : Own w base v l) (hn : 0 < l.length) : ∃ g cap, v = .slice (some ⟨g, 0, none⟩) l.length cap ∧ base ≤ g ∧ l.length ≤ cap ∧ cap ≤ maxLen := by
  obtain ⟨⟨h0, h1⟩, hb⟩ := h
  rcases h1 with ⟨_, h2⟩ | ⟨g, cap, cur, rfl, hg, hh, h2, h3, h4, h5⟩
  · omega
  · exact ⟨g, cap, rfl, hg, h2, h3⟩
theorem Own.cell {w : World} {base g cap n : Nat} {l : List Nat} (h : Own w base (.slice (some ⟨g, 0, none⟩) n cap) l) (hn : l.length = n) (k : Nat) (hk : k < n) :
    w.cell? ⟨g, k, none⟩ = some (.int .u8 (l.getD k 0 : Nat)) ∧ l.getD k 0 < 256 := by
  subst hn
  refine ⟨?_, h.2 _ (by simp [List.getElem?_eq_getElem hk])⟩
  rw [h.1.cellAt k (by omega)]
  simp [vals, List.getElem?_eq_getElem hk]
theorem Own.melt {w : World} {base g cap n : Nat} {l : List Nat} (h : Own w base (.slice (some ⟨g, 0, none⟩) n cap) l) (hn : l.length = n) (k : Nat) : w.frozen? ⟨g, k, none⟩ = false := by
  subst hn
  exact h.1.frozenAt k

/-- Bytes have been spoilt: they are other ones, and nothing else has changed. -/
def SpoilP (w : World) (u : Value) (x : Ending) (w' : World) : Prop := x = .returned undef ∧ Touch (fun k => u.ownBlock = some k) w w'
theorem xor_a5 (a : Nat) (ha : a < 256) : bits BinOp.xor IntKind.u8 (a : Int) 165 = ((a ^^^ 165 : Nat) : Int) ∧ a ^^^ 165 < 256 := by
  refine ⟨?_, Nat.xor_lt_two_pow (n := 8) ha (by decide)⟩
  have : ∀ d : Fin 256, bits BinOp.xor IntKind.u8 (d.val : Int) 165 = ((d.val ^^^ 165 : Nat) : Int) := by decide +kernel
  exact this ⟨a, ha⟩
set_option maxHeartbeats 400000 in
theorem spoil (u : Value) (l : List Nat) (base : Nat) (w : World) (h : Own w base u l) (hl : l.length ≤ 100000000) :
    Calls Try.prog 19 #[u] w (SpoilP w u) := by
  rcases Nat.eq_zero_or_pos l.length with h0 | h0
  · obtain ⟨a, c, rfl, -⟩ := h.rd
    obtain rfl : l = [] := List.eq_nil_of_length_eq_zero h0
    go_enter Try.func19, Try.ntmps19
    go_wp2
    go_loop [2] (fun i => i = .int .i64 0) (fun _ => 0)
    case atStart => rfl
    case round =>
      subst hrel
      go_wp2
      go_end0
      exact ⟨rfl, Touch.refl _ _⟩
  · obtain ⟨g, c, rfl, hg, hc, hm⟩ := h.form h0
    generalize hn : l.length = n at *
    have HN := Lib.hid hn
    clear hn
    go_enter Try.func19, Try.ntmps19
    go_wp2
    go_loopw [2] (fun i wr => ∃ k : Nat, k ≤ n ∧ i = .int .i64 k ∧ ∃ l', l'.length = n ∧ Own wr base (.slice (some ⟨g, 0, none⟩) n c) l' ∧ Touch (fun k => k = g) w wr) (fun i _ => n - (intOf i).toNat)
    case atStart => exact ⟨0, by omega, rfl, l, HN.out, h, Touch.refl _ _⟩
    case round =>
      obtain ⟨k, hk, rfl, l', hn', ho, ht⟩ := hrel
      have HN' := Lib.hid hn'
      clear hn'
      by_cases hlt : k < n
      · obtain ⟨hc1, hb1⟩ := ho.cell HN'.out k hlt
        have hf := ho.melt HN'.out k
        generalize l'.getD k 0 = y at hc1 hb1
        obtain ⟨hx, hx2⟩ := xor_a5 y hb1
        have HX := Lib.hid hx
        clear hx
        go_wp2
        go_roundw
        case rel =>
          rw [HX.out]
          exact ⟨k + 1, by omega, by go_num, _, by rw [List.length_set]; exact HN'.out, ho.stored HN'.out k _ hx2, ht.setCell (p := ⟨g, k, none⟩) rfl _⟩
        case measure => simp [intOf]; omega
      · go_wp2
        go_end0
        exact ⟨rfl, ht.mono fun k hk => by subst hk; rfl⟩
end Go.Proofs.Ytdijcgjgdfhapaa
