/- Numbers' bytes, plainly: what the library makes of them. -/
import Derived.Test.YtgmdjofnkbaflaaDoorRd
import Derived.Lib.ParseIntB
namespace Go.Proofs.YtgmdjofnkbaflaaDoor.Jr
open Go.Lib
set_option linter.unusedVariables false

def fold (acc : Nat) (l : List Nat) : Nat := l.foldl (fun n c => 10 * n + (c - 48)) acc
theorem val_fold (l : List Nat) : val l = fold 0 l := rfl
theorem fold_ge : ∀ (l : List Nat) (acc : Nat), acc ≤ fold acc l
  | [], acc => Nat.le_refl _
  | c :: l, acc => by
    have := fold_ge l (10 * acc + (c - 48))
    show acc ≤ fold (10 * acc + (c - 48)) l
    omega
def M64 : Nat := 18446744073709551615
theorem pm_iff : ∀ (l : List UInt8) (acc u : Nat), acc ≤ M64 → (parseUintM M64 acc l = .ok u ↔ (∀ c ∈ l.map UInt8.toNat, isd c = true) ∧ u = fold acc (l.map UInt8.toNat) ∧ fold acc (l.map UInt8.toNat) ≤ M64)
  | [], acc, u, h => by
    unfold parseUintM
    simp only [List.map_nil, List.not_mem_nil, false_implies, implies_true, true_and]
    show NumEnd.ok acc = .ok u ↔ u = acc ∧ acc ≤ M64
    constructor
    · intro e; injection e with e; exact ⟨e.symm, h⟩
    · rintro ⟨rfl, _⟩; rfl
  | c :: r, acc, u, h => by
    unfold parseUintM
    have hf : fold acc ((c :: r).map UInt8.toNat) = fold (10 * acc + (c.toNat - 48)) (r.map UInt8.toNat) := rfl
    have hge := fold_ge (r.map UInt8.toNat) (10 * acc + (c.toNat - 48))
    rw [hf]
    by_cases hd : 48 ≤ c.toNat ∧ c.toNat ≤ 57
    · rw [if_pos hd]
      have hi : isd c.toNat = true := by simp [isd, hd]
      by_cases h1 : 1844674407370955162 ≤ acc
      · rw [if_pos h1]
        constructor
        · intro e; cases e
        · rintro ⟨_, _, e⟩; unfold M64 at e; omega
      · rw [if_neg h1]
        by_cases h2 : M64 < acc * 10 + (c.toNat - 48)
        · rw [if_pos h2]
          constructor
          · intro e; cases e
          · rintro ⟨_, _, e⟩; omega
        · rw [if_neg h2, show acc * 10 + (c.toNat - 48) = 10 * acc + (c.toNat - 48) by omega, pm_iff r (10 * acc + (c.toNat - 48)) u (by omega)]
          simp only [List.map_cons, List.mem_cons, forall_eq_or_imp, hi, true_and]
    · rw [if_neg hd]
      constructor
      · intro e; cases e
      · rintro ⟨e, _⟩
        have := e c.toNat (by simp)
        simp [isd] at this
        omega
theorem pi_neg (c : UInt8) (r : List UInt8) (hc : c.toNat = 45) (hr : r ≠ []) (v : Int) : parseIntB 64 (c :: r) = .ok v ↔ (∀ x ∈ r.map UInt8.toNat, isd x = true) ∧ v = -(val (r.map UInt8.toNat) : Int) ∧ val (r.map UInt8.toNat) ≤ 9223372036854775808 := by
  unfold parseIntB
  simp only [hc, or_true, if_true]
  unfold parseUintB
  rw [if_neg hr, show (2 ^ 64 - 1 : Nat) = M64 from rfl]
  have h0 := fun u => pm_iff r 0 u (by decide)
  cases he : parseUintM M64 0 r with
  | ok u =>
    obtain ⟨h1, h2, h3⟩ := (h0 u).1 he
    rw [val_fold, ← h2]
    simp only [not_true_eq_false, false_and, if_false, true_and]
    by_cases h4 : 2 ^ (64 - 1) < u
    · rw [if_pos h4]
      constructor
      · intro e; cases e
      · rintro ⟨_, _, e⟩; simp at h4; omega
    · rw [if_neg h4]
      simp at h4
      constructor
      · intro e; injection e with e; exact ⟨h1, e.symm, by omega⟩
      · rintro ⟨_, e, _⟩; rw [e]
  | «range» =>
    constructor
    · intro e; cases e
    · rintro ⟨h1, h2, h3⟩
      have := (h0 _).2 ⟨h1, rfl, by rw [← val_fold]; unfold M64; omega⟩
      rw [he] at this; cases this
  | _ =>
    constructor
    · intro e; cases e
    · rintro ⟨h1, h2, h3⟩
      have := (h0 _).2 ⟨h1, rfl, by rw [← val_fold]; unfold M64; omega⟩
      rw [he] at this; cases this
theorem pi_pos (c : UInt8) (r : List UInt8) (hc : c.toNat ≠ 45) (hc2 : c.toNat ≠ 43) (v : Int) : parseIntB 64 (c :: r) = .ok v ↔ (∀ x ∈ (c :: r).map UInt8.toNat, isd x = true) ∧ v = (val ((c :: r).map UInt8.toNat) : Nat) ∧ val ((c :: r).map UInt8.toNat) < 9223372036854775808 := by
  unfold parseIntB
  have hn : ¬ (c.toNat = 43 ∨ c.toNat = 45) := by omega
  simp only [hn, if_false]
  unfold parseUintB
  rw [if_neg (by simp), show (2 ^ 64 - 1 : Nat) = M64 from rfl]
  have h0 := fun u => pm_iff (c :: r) 0 u (by decide)
  cases he : parseUintM M64 0 (c :: r) with
  | ok u =>
    obtain ⟨h1, h2, h3⟩ := (h0 u).1 he
    rw [val_fold, ← h2]
    simp only [hc, not_false_eq_true, true_and, false_and, if_false]
    by_cases h4 : 2 ^ (64 - 1) ≤ u
    · rw [if_pos h4]
      constructor
      · intro e; cases e
      · rintro ⟨_, _, e⟩; simp at h4; omega
    · rw [if_neg h4]
      simp at h4
      constructor
      · intro e; injection e with e; exact ⟨h1, e.symm, by omega⟩
      · rintro ⟨_, e, _⟩; rw [e]
  | «range» =>
    constructor
    · intro e; cases e
    · rintro ⟨h1, h2, h3⟩
      have := (h0 _).2 ⟨h1, rfl, by rw [← val_fold]; unfold M64; omega⟩
      rw [he] at this; cases this
  | _ =>
    constructor
    · intro e; cases e
    · rintro ⟨h1, h2, h3⟩
      have := (h0 _).2 ⟨h1, rfl, by rw [← val_fold]; unfold M64; omega⟩
      rw [he] at this; cases this
theorem nd_all : ∀ (s : List Nat), ∀ x ∈ s.take (nd s), isd x = true
  | [], x, h => by simp [nd] at h
  | c :: t, x, h => by
    unfold nd at h
    by_cases hc : isd c = true
    · rw [if_pos hc, List.take_succ_cons] at h
      rcases List.mem_cons.1 h with rfl | h
      · exact hc
      · exact nd_all t x h
    · rw [if_neg hc] at h; simp at h
theorem nIn_all (s : List Nat) : ∀ x ∈ s.take (nIn s), isd x = true := by
  intro x h
  unfold nIn at h
  by_cases hc : hd s = 48
  · rw [if_pos hc] at h
    cases s with
    | nil => simp at hc
    | cons c t =>
      simp at hc
      subst hc
      simp at h
      subst h; decide
  · rw [if_neg hc] at h; exact nd_all s x h
theorem nIn_le (s : List Nat) : nIn s ≤ s.length := by
  unfold nIn
  by_cases hc : hd s = 48
  · rw [if_pos hc]
    cases s with
    | nil => simp at hc
    | cons c t => simp
  · rw [if_neg hc]; exact nd_le s
theorem hd_at (s : List Nat) (i : Nat) (h : hd (s.drop i) ≠ 0) : s[i]? = some (hd (s.drop i)) := by
  unfold hd at h ⊢
  rw [List.getD_eq_getElem?_getD, List.getElem?_drop, Nat.add_zero] at h ⊢
  cases e : s[i]? with
  | none => rw [e] at h; simp at h
  | some x => rfl
/-- What is scanned is digits alone just if it ends behind the whole. -/
theorem scan_digits (s : List Nat) (n : Nat) (h : scan s = (n, true)) : n = nP5 s ∧ nP1 s < nP2 s ∧ nP2 s ≤ n ∧ ((∀ x ∈ (s.drop (nP1 s)).take (n - nP1 s), isd x = true) ↔ n = nP2 s) := by
  unfold scan at h
  by_cases c1 : nP2 s = nP1 s
  · rw [if_pos c1] at h; simp at h
  · by_cases c2 : nP3 s = nP2 s + 1
    · rw [if_neg c1, if_pos c2] at h; simp at h
    · by_cases c3 : isE (s.drop (nP3 s)) ∧ nP5 s = nP4 s
      · rw [if_neg c1, if_neg c2, if_pos c3] at h; simp at h
      · rw [if_neg c1, if_neg c2, if_neg c3] at h
        obtain rfl : n = nP5 s := by injection h with h; exact h.symm
        have e2 : nP2 s = nP1 s + nIn (s.drop (nP1 s)) := rfl
        have e3 : nP3 s = nP2 s + nFr (s.drop (nP2 s)) := rfl
        have e4 : nP4 s = nP3 s + nEh (s.drop (nP3 s)) := rfl
        have e5 : nP5 s = nP4 s + nEd (s.drop (nP3 s)) := rfl
        refine ⟨rfl, by omega, by omega, fun hall => ?_, fun he => ?_⟩
        · -- a byte that is none
          rcases Nat.lt_or_ge (nP2 s) (nP5 s) with hlt | hge
          · exfalso
            have hb : hd (s.drop (nP2 s)) = 46 ∨ hd (s.drop (nP2 s)) = 101 ∨ hd (s.drop (nP2 s)) = 69 := by
              by_cases f : hd (s.drop (nP2 s)) = 46
              · exact .inl f
              · right
                have hf : nFr (s.drop (nP2 s)) = 0 := by unfold nFr; rw [if_neg f]
                rw [hf, Nat.add_zero] at e3
                by_cases g : isE (s.drop (nP3 s))
                · unfold isE at g; rw [e3] at g; exact g
                · exfalso
                  have h1 : nEh (s.drop (nP3 s)) = 0 := by unfold nEh; rw [if_neg g]
                  have h2 : nEd (s.drop (nP3 s)) = 0 := by unfold nEd; rw [if_neg g]
                  omega
            have hat := hd_at s (nP2 s) (by omega)
            have hm : hd (s.drop (nP2 s)) ∈ (s.drop (nP1 s)).take (nP5 s - nP1 s) := by
              apply List.mem_of_getElem? (i := nP2 s - nP1 s)
              rw [List.getElem?_take_of_lt (by omega), List.getElem?_drop, show nP1 s + (nP2 s - nP1 s) = nP2 s by omega]
              exact hat
            have := hall _ hm
            simp [isd] at this
            omega
          · omega
        · rw [he, show nP2 s - nP1 s = nIn (s.drop (nP1 s)) by omega]
          exact nIn_all _
theorem token {s : List Nat} {n : Nat} (h : scan s = (n, true)) {L : List UInt8} (hL : L.map UInt8.toNat = s.take n) :
    (fits s → parseIntB 64 L = .ok (nVal s)) ∧ (¬ fits s → ∀ v, parseIntB 64 L ≠ .ok v) := by
  obtain ⟨hn, h12, h2n, hdig⟩ := scan_digits s n h
  have e2 : nP2 s = nP1 s + nIn (s.drop (nP1 s)) := rfl
  have hle : nP2 s ≤ s.length := by
    have := nIn_le (s.drop (nP1 s))
    rw [List.length_drop] at this
    omega
  by_cases h45 : hd s = 45
  · have p1 : nP1 s = 1 := by unfold nP1 nSg; rw [if_pos h45]
    rw [p1] at hdig e2 h12
    cases s with
    | nil => simp at h45
    | cons c0 s' =>
      simp at h45
      subst h45
      cases n with
      | zero => omega
      | succ m =>
        rw [List.take_succ_cons] at hL
        cases L with
        | nil => simp at hL
        | cons c r =>
          simp only [List.map_cons, List.cons.injEq] at hL
          obtain ⟨hc, hr⟩ := hL
          have hr0 : r ≠ [] := by
            intro e
            subst e
            have := congrArg List.length hr
            simp at this hle
            omega
          have pi := fun v => pi_neg c r hc hr0 v
          rw [hr] at pi
          simp only [List.drop_succ_cons, List.drop_zero, Nat.add_sub_cancel] at hdig e2
          have hv : nVal (45 :: s') = -(val (s'.take (nIn s')) : Nat) := by unfold nVal; rw [if_pos (by rfl)]; rfl
          constructor
          · rintro ⟨f1, f2, f3⟩
            have hm : m = nIn s' := by omega
            rw [pi]
            rw [hv] at f2 ⊢
            rw [hm]
            refine ⟨?_, rfl, by omega⟩
            rw [← hm]
            exact hdig.2 (by omega)
          · intro hf v hp
            obtain ⟨q1, q2, q3⟩ := (pi v).1 hp
            have hm := hdig.1 q1
            apply hf
            have hm2 : m = nIn s' := by omega
            refine ⟨by omega, ?_, ?_⟩
            · rw [hv, ← hm2]; omega
            · rw [hv]; omega
  · have p1 : nP1 s = 0 := by unfold nP1 nSg; rw [if_neg h45]
    rw [p1] at hdig e2 h12
    rw [List.drop_zero] at hdig e2
    rw [Nat.zero_add] at e2
    have hv : nVal s = (val (s.take (nIn s)) : Nat) := by unfold nVal; rw [if_neg h45]
    cases s with
    | nil => simp at hle; omega
    | cons c0 s' =>
      have hc0 : isd c0 = true := nIn_all (c0 :: s') c0 (by
        cases hq : nIn (c0 :: s') with
        | zero => omega
        | succ j => rw [List.take_succ_cons]; exact List.mem_cons_self ..)
      cases n with
      | zero => omega
      | succ m =>
        have hL' := hL
        rw [List.take_succ_cons] at hL
        cases L with
        | nil => simp at hL
        | cons c r =>
          simp only [List.map_cons, List.cons.injEq] at hL
          have hcd : 48 ≤ c.toNat ∧ c.toNat ≤ 57 := by rw [hL.1]; simpa [isd] using hc0
          have pi := fun v => pi_pos c r (by omega) (by omega) v
          rw [hL'] at pi
          rw [Nat.sub_zero] at hdig
          constructor
          · rintro ⟨f1, f2, f3⟩
            have hm : m + 1 = nIn (c0 :: s') := by omega
            rw [pi]
            rw [hv] at f3 ⊢
            refine ⟨hdig.2 (by omega), by rw [hm], ?_⟩
            rw [hm]; omega
          · intro hf v hp
            obtain ⟨q1, q2, q3⟩ := (pi v).1 hp
            have hm := hdig.1 q1
            apply hf
            have hm2 : m + 1 = nIn (c0 :: s') := by omega
            refine ⟨by omega, ?_, ?_⟩
            · rw [hv]; omega
            · rw [hv, ← hm2]; omega
end Go.Proofs.YtgmdjofnkbaflaaDoor.Jr
