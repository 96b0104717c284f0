/- A region that draws its order: a head of quiet operations over a class of worlds (calls that end in 'Below'), then a tail in one forced order (stores). Own text: the head is walked as a region by itself, and its orders are carried over. -/
import Derived.StillTailTactics
import Derived.Deep.QuietTactic
namespace Go.Proofs.YtfplogjdcndohaaGreatDoor
open Go

/-- The head's operations bear no guard and wait for earlier ones alone. -/
def plainHead (md : Region.Mode) (hd : Array Oper) : Bool :=
  (List.range hd.size).all fun j => match hd[j]? with
    | some o => o.guard.isNone && o.after.all (fun e => !Region.binds md e || decide (e.on < j))
    | none => true
theorem plainHead_spec {md : Region.Mode} {hd : Array Oper} (h : plainHead md hd = true) {j : Nat} {o : Oper} (hj : hd[j]? = some o) : o.guard = none ∧ ∀ e ∈ o.after, Region.binds md e = true → e.on < j := by
  have hlt : j < hd.size := (Array.getElem?_eq_some_iff.1 hj).1
  have h1 := List.all_eq_true.1 h j (List.mem_range.2 hlt)
  simp only [hj, Bool.and_eq_true, Option.isNone_iff_eq_none] at h1
  refine ⟨h1.1, fun e he hb => ?_⟩
  have h2 := Array.all_eq_true_iff_forall_mem.1 h1.2 e he
  simp only [hb, Bool.not_true, Bool.false_or, decide_eq_true_eq] at h2
  exact h2
/-- The whole region's record agrees with the head's. -/
def Agree (n : Nat) (listed lh : Array Bool) : Prop := lh.size = n ∧ n ≤ listed.size ∧ ∀ j, j < n → listed[j]? = lh[j]?
theorem Agree.getD {n : Nat} {listed lh : Array Bool} (h : Agree n listed lh) {j : Nat} (hj : j < n) (d : Bool) : listed.getD j d = lh.getD j d := by
  have := h.2.2 j hj
  rw [Array.getD_eq_getD_getElem?, Array.getD_eq_getD_getElem?, this]
theorem Agree.set {n : Nat} {listed lh : Array Bool} (h : Agree n listed lh) (i : Nat) : Agree n (listed.setIfInBounds i true) (lh.setIfInBounds i true) := by
  refine ⟨by simpa using h.1, by simpa using h.2.1, fun j hj => ?_⟩
  have := h.2.2 j hj
  have h1 := h.1
  have h2 := h.2.1
  simp only [Array.getElem?_setIfInBounds]
  split
  · rw [if_pos (by omega), if_pos (by omega)]
  · exact this
theorem count_set_false (l : Array Bool) (i : Nat) (hi : i < l.size) (h : l.getD i true = false) : (l.setIfInBounds i true).toList.count false + 1 = l.toList.count false := by
  obtain ⟨l⟩ := l
  simp only [List.size_toArray] at hi
  simp [hi] at h
  simp only [List.setIfInBounds_toArray]
  have hm : l.count false ≠ 0 := by
    intro h0
    have := List.count_eq_zero.1 h0
    exact this (h ▸ List.getElem_mem hi)
  rw [List.count_set hi, h]
  simp
  omega
theorem all_of_count {l : Array Bool} (h : l.toList.count false = 0) (j : Nat) (hj : j < l.size) : l[j]? = some true := by
  have := List.count_eq_zero.1 h
  rw [Array.getElem?_eq_getElem hj]
  cases hb : l[j] with
  | true => rfl
  | false => exact absurd (hb ▸ Array.getElem_mem_toList hj) this
section
variable {P : Program} {md : Region.Mode} {hd ops : Array Oper} {C : World → Prop} {n g : Nat}
theorem some_ready (hp : plainHead md hd = true) {lh : Array Bool} : ∀ (j : Nat), j < hd.size → lh.getD j true = false → Region.ready md hd lh ≠ [] := by
  intro j
  induction j using Nat.strongRecOn with
  | _ j ih =>
    intro hj hun h0
    obtain ⟨o, ho⟩ : ∃ o, hd[j]? = some o := ⟨_, Array.getElem?_eq_getElem hj⟩
    have hno : j ∉ Region.ready md hd lh := by rw [h0]; simp
    apply hno
    refine mem_ready.2 ⟨hun, o, ho, fun e he hb => ?_⟩
    have hlt := (plainHead_spec hp ho).2 e he hb
    cases hl : lh.getD e.on true with
    | false => exact absurd h0 (ih e.on hlt (by omega) hl)
    | true =>
      rw [Array.getD_eq_getD_getElem?] at hl ⊢
      cases hx : lh[e.on]? with
      | none =>
        exfalso
        have h1 : lh.size ≤ e.on := by simpa using hx
        have h2 : lh.getD j true = true := by rw [Array.getD_eq_getD_getElem?, Array.getElem?_eq_none (by omega)]; rfl
        rw [h2] at hun; cases hun
      | some b => rw [hx] at hl; simpa using hl
theorem wpAny_of_quiet_head (hp : plainHead md hd = true) (hs : Region.sinkB md ops n = true) (hc : Region.chainB md ops n = true) (hn : n < ops.size) (hsz : hd.size = n) (hsub : ∀ j, j < n → ops[j]? = hd[j]?)
    {Lq : Act → Prop} {Q' : Exit → Act → World → Prop} (hend : ∀ listed a w, HeadInv md ops n listed → (∀ j, j < n → listed[j]? = some true) → C w → Lq a → wpAny P md ops Q' g listed a w) :
    ∀ (f : Nat) (listed lh : Array Bool) (a : Act) (w : World), C w → HeadInv md ops n listed → Agree n listed lh → lh.toList.count false = f →
      wpAnyQ P md hd C Lq f lh a → wpAny P md ops Q' (f + g) listed a w
  | 0, listed, lh, a, w, hC, inv, ag, hf, h => by
    rw [Nat.zero_add]
    exact hend listed a w inv (fun j hj => by rw [ag.2.2 j hj]; exact all_of_count hf j (by rw [ag.1]; exact hj)) hC h.2
  | f + 1, listed, lh, a, w, hC, inv, ag, hf, h => by
    rw [show f + 1 + g = (f + g) + 1 by omega]
    obtain ⟨i0, hi0, hu0⟩ : ∃ i, i < n ∧ lh.getD i true = false := by
      have hm : false ∈ lh.toList := List.count_pos_iff.1 (by omega)
      obtain ⟨i, hi, he⟩ := List.getElem_of_mem hm
      have hi' : i < lh.size := by simpa using hi
      exact ⟨i, by rw [← ag.1]; exact hi', by simp [hi']; simpa using he⟩
    have hlow : ∀ i ∈ Region.ready md ops listed, i < n := fun i hi => by
      rcases Nat.lt_or_ge i n with h1 | h1
      · exact h1
      · exact absurd hi (tail_waits hs hc hn inv _ i0 rfl hi0 (by rw [ag.getD hi0]; exact hu0) i h1)
    have hiff : ∀ i, i < n → (i ∈ Region.ready md ops listed ↔ i ∈ Region.ready md hd lh) := fun i hi => by
      rw [mem_ready, mem_ready, ag.getD hi, hsub i hi]
      constructor
      · rintro ⟨h1, o, ho, h2⟩
        refine ⟨h1, o, ho, fun e he hb => ?_⟩
        have := (plainHead_spec hp ho).2 e he hb
        rw [← ag.getD (by omega)]; exact h2 e he hb
      · rintro ⟨h1, o, ho, h2⟩
        refine ⟨h1, o, ho, fun e he hb => ?_⟩
        have := (plainHead_spec hp ho).2 e he hb
        rw [ag.getD (by omega)]; exact h2 e he hb
    have hne : Region.ready md ops listed ≠ [] := by
      have h1 := some_ready hp i0 (by omega) hu0
      cases hr : Region.ready md hd lh with
      | nil => exact absurd hr h1
      | cons i r =>
        have hin : i ∈ Region.ready md hd lh := by rw [hr]; simp
        have hilt : i < n := by
          obtain ⟨_, o, ho, _⟩ := mem_ready.1 hin
          have := (Array.getElem?_eq_some_iff.1 ho).1
          omega
        intro h0
        have := (hiff i hilt).2 hin
        rw [h0] at this; cases this
    refine ⟨fun h0 => absurd h0 hne, fun i hi => ?_⟩
    have hilt := hlow i hi
    have hih := (hiff i hilt).1 hi
    obtain ⟨hun, o, ho, _⟩ := mem_ready.1 hih
    have hg := (plainHead_spec hp ho).1
    have hq := h.2 i hih
    have hw : ∀ y, Region.wanted o y = true := fun y => by unfold Region.wanted; rw [hg]
    unfold qOp at hq
    simp only [ho, hw, if_true] at hq
    unfold wpOp
    simp only [hsub i hilt, ho, hw, if_true]
    refine .inl (Oper.wp_of_quiet hC (fun a' w' hC' h' => ?_) hq)
    refine wpAny_of_quiet_head hp hs hc hn hsz hsub hend f _ _ a' w' hC' (inv.set hi hilt) (ag.set i) ?_ h'
    have := count_set_false lh i (by rw [ag.1]; exact hilt) hun
    omega
end
/-- **A quiet head, then a forced tail.** -/
def quietTailB (ops : Array Oper) (n : Nat) : Bool :=
  plainHead .any (ops.toList.take n).toArray && Region.lexB .any (ops.toList.take n).toArray && Region.sinkB .any ops n && Region.chainB .any ops n && decide (n < ops.size) &&
    Region.seqB .any ops (ops.size - n) n (Array.replicate n true ++ Array.replicate (ops.size - n) false)
theorem wp_region_quiet_tail {P : Program} {C : World → Prop} {id : Nat} {Q : Exit → Act → World → Prop} {a : Act} {w : World} {l : List Oper} (n : Nat) (hm : P.follows .mixedOrders = true) (hB : quietTailB l.toArray n = true)
    (hC : C { w with drawn := w.drawn + 1 }) (h : wpQuiet P (l.take n).toArray C (fun a' => ∀ w', C w' → wpList P l.toArray Q (l.drop n) a' w') (l.take n) a) : (Code.region id l.toArray true).wp P Q a w := by
  simp only [quietTailB, Bool.and_eq_true, decide_eq_true_eq] at hB
  obtain ⟨⟨⟨⟨⟨hp, hlex⟩, hs⟩, hc⟩, hn⟩, hseq⟩ := hB
  have hn' : n < l.length := by simpa using hn
  have hsz : (l.take n).toArray.size = n := by simp; omega
  have hsub : ∀ j, j < n → l.toArray[j]? = (l.take n).toArray[j]? := fun j hj => by simp [hj]
  refine wp_region_any hm ?_
  have hlex' := hlex
  unfold Region.lexB at hlex'
  rw [Bool.and_eq_true] at hlex'
  have HQ : wpAnyQ P .any (l.take n).toArray C (fun a' => ∀ w', C w' → wpList P l.toArray Q (l.drop n) a' w') n (Array.replicate n false) a := by
    have := wpAnyQ_lex (P := P) (C := C) (md := .any) hlex'.1 (l.take n) 0 (Array.replicate (l.take n).toArray.size false) a (by simp) (by simpa using hlex'.2) h
    rwa [show (l.take n).length = n by simp; omega, hsz] at this
  have inv0 : HeadInv .any l.toArray n (Array.replicate l.toArray.size false) :=
    ⟨by simp, fun j oj _ hl => (by rw [getD_replicate_false] at hl; cases hl), fun t _ ht => getD_in (by simpa using ht) (getD_replicate_false _ _)⟩
  have := wpAny_of_quiet_head (P := P) (C := C) (g := l.toArray.size - n) (Q' := Q) hp hs hc hn hsz hsub (fun listed a' w' inv hall hC' hL => by
    have hl : listed = Array.replicate n true ++ Array.replicate (l.toArray.size - n) false := by
      apply Array.ext_getElem?
      intro j
      rcases Nat.lt_or_ge j n with hj | hj
      · rw [hall j hj, Array.getElem?_append_left (by simpa using hj)]; simp [hj]
      · rw [Array.getElem?_append_right (by simpa using hj)]
        rcases Nat.lt_or_ge j l.toArray.size with hj2 | hj2
        · have h1 := inv.tail j hj hj2
          have hj3 : j < listed.size := by rw [inv.size]; exact hj2
          simp [hj3] at h1
          rw [Array.getElem?_eq_getElem hj3, h1]
          rw [Array.getElem?_replicate, Array.size_replicate, if_pos (by omega)]
        · rw [Array.getElem?_eq_none (by rw [inv.size]; exact hj2)]
          rw [Array.getElem?_replicate, Array.size_replicate, if_neg (by omega)]
    have hdl : (l.drop n).length = l.toArray.size - n := by simp
    have := wpAny_of_seq (md := .any) (Q' := Q) (l.drop n) n listed a' w' (fun j => by simp [List.getElem?_drop]) (by rw [hdl, hl]; exact hseq) (hL w' hC')
    rwa [hdl] at this) n (Array.replicate l.toArray.size false) (Array.replicate n false) a _ hC inv0
    ⟨by simp, by simp; omega, fun j hj => by rw [Array.getElem?_replicate, Array.getElem?_replicate, if_pos (by rw [List.size_toArray]; omega), if_pos hj]⟩ (by simp) HQ
  rwa [show n + (l.toArray.size - n) = l.toArray.size by simp; omega] at this
end Go.Proofs.YtfplogjdcndohaaGreatDoor
