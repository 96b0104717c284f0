/- Several texts in one: GrowI, GrowS, ScCnt, ScM, ScMP, ScMR, ScMS, ScMd, ScMdP. -/
import Derived.Test.YtjmphlboickhdaaGreatDoorScb
import Derived.Test.YtjmphlboickhdaaGreatDoorSca
import Derived.Test.YtjmphlboickhdaaGreatDoorRwM
import Derived.Deep.DeepCutAuto
import Derived.Deep.CutBlock
import Derived.Deep.MidRow
/- A drawn region that makes memory and writes some: what each operation's result is, is said by itself, of any world that stands in a relation (reflexive, transitive) to the one at the beginning; one obligation an operation, none an order. Own text (gen/XGrow's, of any relation). -/
namespace Go.Proofs.YtjmphlboickhdaaGreatDoor
open Go Go.RowKit

structure GInvS (Lt : World → World → Prop) (ops : Array Oper) (J : Nat → Value → World → Prop) (a0 : Act) (w0 : World) (listed : Array Bool) (a : Act) (w : World) : Prop where
  b : Lt w0 w
  size : a.tmps.size = a0.tmps.size
  defers : a.defers = a0.defers
  old : ∀ s, (∀ j, j < ops.size → dstOf ops j ≠ some s) → a.tmps[s]? = a0.tmps[s]?
  ls : listed.size = ops.size
  got : ∀ j, j < ops.size → listed.getD j false = true → J j (valOf ops a j) w
theorem GInvS.step {Lt : World → World → Prop} (ht : ∀ a b c, Lt a b → Lt b c → Lt a c) {ops : Array Oper} {J : Nat → Value → World → Prop} {a0 : Act} {w0 : World} (hB : growB ops a0.tmps.size = true) (hJ : ∀ j v w w', J j v w → Lt w w' → J j v w')
    {listed : Array Bool} {a : Act} {w w' : World} {i : Nat} {o : Oper} {v : Value} (h : GInvS Lt ops J a0 w0 listed a w) (ho : ops[i]? = some o) (hv : J i (match o.dst with | some _ => v | none => undef) w') (hb : Lt w w') :
    GInvS Lt ops J a0 w0 (listed.setIfInBounds i true) (a.put o.dst v) w' := by
  have hi : i < ops.size := (Array.getElem?_eq_some_iff.1 ho).1
  obtain ⟨_, hd⟩ := growB_spec hB ho
  have hdi : dstOf ops i = o.dst := by unfold dstOf; rw [ho]; rfl
  refine ⟨ht _ _ _ h.b hb, ?_, ?_, fun s hs => ?_, by simp [h.ls], fun j hj hl => ?_⟩
  · unfold Act.put; split <;> simp [h.size]
  · unfold Act.put; split <;> exact h.defers
  · have hne := hs i hi
    rw [hdi] at hne
    unfold Act.put
    split
    · rename_i d hdd
      rw [hdd] at hne
      rw [Array.getElem?_setIfInBounds_ne (by intro e; exact hne (by rw [e]))]
      exact h.old s hs
    · exact h.old s hs
  · by_cases hij : j = i
    · subst hij
      unfold valOf
      rw [hdi]
      unfold Act.put
      cases hdd : o.dst with
      | none => rw [hdd] at hv; exact hv
      | some d =>
        rw [hdd] at hv
        have := (hd d hdd).1
        simp only
        rw [Array.getD_eq_getD_getElem?, Array.getElem?_setIfInBounds_self, if_pos (by rw [h.size]; exact this)]
        exact hv
    · have hl2 : listed.getD j false = true := by
        rw [Array.getD_eq_getD_getElem?, Array.getElem?_setIfInBounds_ne (Ne.symm hij)] at hl
        rw [Array.getD_eq_getD_getElem?]; exact hl
      have hg := hJ _ _ _ _ (h.got j hj hl2) hb
      have e : valOf ops (a.put o.dst v) j = valOf ops a j := by
        unfold valOf
        cases hdj : dstOf ops j with
        | none => rfl
        | some s =>
          unfold Act.put
          cases hdd : o.dst with
          | none => rfl
          | some d =>
            have hne : d ≠ s := fun e => (hd d hdd).2 j hj hij (by rw [hdj, e])
            simp only
            rw [Array.getD_eq_getD_getElem?, Array.getElem?_setIfInBounds_ne hne, ← Array.getD_eq_getD_getElem?]
      rw [e]; exact hg
/-- **A region that only grows.** -/
theorem wpAny_growS {Lt : World → World → Prop} (ht : ∀ a b c, Lt a b → Lt b c → Lt a c) {P : Program} {ops : Array Oper} {Q : Exit → Act → World → Prop} {J : Nat → Value → World → Prop} {a0 : Act} {w0 : World} (hB : growB ops a0.tmps.size = true) (hJ : ∀ j v w w', J j v w → Lt w w' → J j v w')
    (hstep : ∀ (j : Nat) (o : Oper) (a : Act) (w : World), ops[j]? = some o → Lt w0 w → a.tmps.size = a0.tmps.size → (∀ s, (∀ j, j < ops.size → dstOf ops j ≠ some s) → a.tmps[s]? = a0.tmps[s]?) →
      (∀ e ∈ o.after, Region.binds .any e = true → J e.on (valOf ops a e.on) w) → wpOp P ops Q j (fun a' w' => ∃ v, a' = a.put o.dst v ∧ J j (match o.dst with | some _ => v | none => undef) w' ∧ Lt w w') a w)
    (hend : ∀ a w, Lt w0 w → a.defers = a0.defers → a.tmps.size = a0.tmps.size → (∀ s, (∀ j, j < ops.size → dstOf ops j ≠ some s) → a.tmps[s]? = a0.tmps[s]?) → (∀ j, j < ops.size → J j (valOf ops a j) w) → Q .normal a w) :
    ∀ (fuel : Nat) (listed : Array Bool) (a : Act) (w : World), GInvS Lt ops J a0 w0 listed a w → listed.toList.count false = fuel → wpAny P .any ops Q fuel listed a w
  | fuel, listed, a, w, inv, hc => by
    have fin : Region.ready .any ops listed = [] → Q .normal a w := fun h0 => by
      have hall : ∀ j, j < ops.size → listed.getD j false = true := by
        intro j
        induction j using Nat.strongRecOn with
        | _ j ih =>
          intro hj
          cases hl : listed.getD j false with
          | true => rfl
          | false =>
            exfalso
            obtain ⟨o, ho⟩ : ∃ o, ops[j]? = some o := ⟨_, Array.getElem?_eq_getElem hj⟩
            have : j ∈ Region.ready .any ops listed := mem_ready.2 ⟨by
              rw [Array.getD_eq_getD_getElem?] at hl ⊢
              rw [Array.getElem?_eq_getElem (by rw [inv.ls]; exact hj)] at hl ⊢
              exact hl, o, ho, fun e he hb => ih e.on ((growB_spec hB ho).1 e he hb) (by have := (growB_spec hB ho).1 e he hb; omega)⟩
            rw [h0] at this; cases this
      exact hend a w inv.b inv.defers inv.size inv.old fun j hj => inv.got j hj (hall j hj)
    cases fuel with
    | zero =>
      refine ⟨?_, ?_⟩
      · cases hr : Region.ready .any ops listed with
        | nil => rfl
        | cons i t =>
          exfalso
          have hi : i ∈ Region.ready .any ops listed := by rw [hr]; exact List.mem_cons_self ..
          obtain ⟨hun, o, ho, _⟩ := mem_ready.1 hi
          have hlt : i < listed.size := by rw [inv.ls]; exact (Array.getElem?_eq_some_iff.1 ho).1
          have := List.count_eq_zero.1 hc
          rw [Array.getD_eq_getD_getElem?, Array.getElem?_eq_getElem hlt] at hun
          exact this (by rw [← show listed[i] = false from hun]; exact Array.getElem_mem_toList hlt)
      · refine fin ?_
        cases hr : Region.ready .any ops listed with
        | nil => rfl
        | cons i t =>
          exfalso
          have hi : i ∈ Region.ready .any ops listed := by rw [hr]; exact List.mem_cons_self ..
          obtain ⟨hun, o, ho, _⟩ := mem_ready.1 hi
          have hlt : i < listed.size := by rw [inv.ls]; exact (Array.getElem?_eq_some_iff.1 ho).1
          have := List.count_eq_zero.1 hc
          rw [Array.getD_eq_getD_getElem?, Array.getElem?_eq_getElem hlt] at hun
          exact this (by rw [← show listed[i] = false from hun]; exact Array.getElem_mem_toList hlt)
    | succ f =>
      refine ⟨fin, fun i hi => ?_⟩
      obtain ⟨hun, o, ho, hdep⟩ := mem_ready.1 hi
      have hlt : i < listed.size := by rw [inv.ls]; exact (Array.getElem?_eq_some_iff.1 ho).1
      refine wpOp_mono (fun a' w' hh => ?_) (hstep i o a w ho inv.b inv.size inv.old fun e he hb => inv.got e.on (by have := (growB_spec hB ho).1 e he hb; have := (Array.getElem?_eq_some_iff.1 ho).1; omega) (hdep e he hb))
      obtain ⟨v, rfl, hv, hb⟩ := hh
      have hcount : (listed.setIfInBounds i true).toList.count false = f := by
        obtain ⟨l⟩ := listed
        simp only [List.size_toArray] at hlt
        simp [hlt] at hun
        simp only [List.setIfInBounds_toArray]
        have hm : l.count false ≠ 0 := by
          intro h0
          exact List.count_eq_zero.1 h0 (hun ▸ List.getElem_mem hlt)
        simp only at hc
        rw [List.count_set hlt, hun]
        simp
        omega
      exact wpAny_growS ht hB hJ hstep hend f _ _ _ (inv.step ht hB hJ ho hv hb) hcount
theorem region_growS (Lt : World → World → Prop) (hr : ∀ w, Lt w w) (ht : ∀ a b c, Lt a b → Lt b c → Lt a c) {P : Program} {id : Nat} {ops : Array Oper} {Q : Exit → Act → World → Prop} (J : Nat → Value → World → Prop) {a0 : Act} {w : World} (hm : P.follows .mixedOrders = true) (hB : growB ops a0.tmps.size = true) (hJ : ∀ j v w w', J j v w → Lt w w' → J j v w')
    (hstep : ∀ (j : Nat) (o : Oper) (a : Act) (w1 : World), ops[j]? = some o → Lt w.drew w1 → a.tmps.size = a0.tmps.size → (∀ s, (∀ j, j < ops.size → dstOf ops j ≠ some s) → a.tmps[s]? = a0.tmps[s]?) →
      (∀ e ∈ o.after, Region.binds .any e = true → J e.on (valOf ops a e.on) w1) → wpOp P ops Q j (fun a' w' => ∃ v, a' = a.put o.dst v ∧ J j (match o.dst with | some _ => v | none => undef) w' ∧ Lt w1 w') a w1)
    (hend : ∀ a w1, Lt w.drew w1 → a.defers = a0.defers → a.tmps.size = a0.tmps.size → (∀ s, (∀ j, j < ops.size → dstOf ops j ≠ some s) → a.tmps[s]? = a0.tmps[s]?) → (∀ j, j < ops.size → J j (valOf ops a j) w1) → Q .normal a w1) : (Code.region id ops true).wp P Q a0 w := by
  refine wp_region_any hm ?_
  exact wpAny_growS ht (w0 := w.drew) hB hJ hstep hend _ _ _ _ ⟨hr _, rfl, rfl, fun s _ => rfl, by simp, fun j hj hl => by rw [Array.getD_eq_getD_getElem?] at hl; simp [hj] at hl⟩ (by simp)
/-- An operation that gives a value. -/
theorem growS_val {Lt : World → World → Prop} {P : Program} {ops : Array Oper} {Q : Exit → Act → World → Prop} {J : Nat → Value → World → Prop} {a : Act} {w : World} {j : Nat} {o : Oper} (v : Value) (w' : World) (ho : ops[j]? = some o) (hw : Region.wanted o (yielded ops a.tmps) = true)
    (hr : (execOp a.eval o).run P w = .ok (.value v) w') (hb : Lt w w') (hJ : J j (match o.dst with | some _ => v | none => undef) w') : wpOp P ops Q j (fun a' w' => ∃ v, a' = a.put o.dst v ∧ J j (match o.dst with | some _ => v | none => undef) w' ∧ Lt w w') a w := by
  unfold wpOp
  rw [ho]
  simp only [hw, if_true]
  left
  unfold Oper.wp
  rw [hr]
  exact ⟨v, rfl, hJ, hb⟩
/-- An operation that writes memory. -/
theorem growS_skip {Lt : World → World → Prop} {P : Program} {ops : Array Oper} {Q : Exit → Act → World → Prop} {J : Nat → Value → World → Prop} {a : Act} {w : World} {j : Nat} {o : Oper} (w' : World) (ho : ops[j]? = some o) (hw : Region.wanted o (yielded ops a.tmps) = true)
    (hn : o.dst = none) (hr : (execOp a.eval o).run P w = .ok .skip w') (hb : Lt w w') (hJ : J j undef w') : wpOp P ops Q j (fun a' w' => ∃ v, a' = a.put o.dst v ∧ J j (match o.dst with | some _ => v | none => undef) w' ∧ Lt w w') a w := by
  unfold wpOp
  rw [ho]
  simp only [hw, if_true]
  left
  unfold Oper.wp
  rw [hr]
  exact ⟨undef, by unfold Act.put; rw [hn], by rw [hn]; exact hJ, hb⟩
/-- An operation that calls. -/
theorem growS_call {Lt : World → World → Prop} {P : Program} {ops : Array Oper} {Q : Exit → Act → World → Prop} {J : Nat → Value → World → Prop} {a : Act} {w : World} {j : Nat} {o : Oper} (f : FuncId) (args : Array Value) (ho : ops[j]? = some o) (hw : Region.wanted o (yielded ops a.tmps) = true)
    (hr : (execOp a.eval o).run P w = .ok (.enter f args) w) (hc : Calls P f args w fun e w' => ∃ v, e = .returned v ∧ J j (match o.dst with | some _ => v | none => undef) w' ∧ Lt w w') : wpOp P ops Q j (fun a' w' => ∃ v, a' = a.put o.dst v ∧ J j (match o.dst with | some _ => v | none => undef) w' ∧ Lt w w') a w := by
  unfold wpOp
  rw [ho]
  simp only [hw, if_true]
  left
  unfold Oper.wp
  rw [hr, Oper.upon_enter]
  refine Calls.mono hc fun e w' ⟨v, he, h1, h2⟩ => ?_
  subst he
  exact ⟨v, rfl, h1, h2⟩
theorem region_growS_merge (Lt : World → World → Prop) (hr : ∀ w, Lt w w) (ht : ∀ a b c, Lt a b → Lt b c → Lt a c) {P : Program} {id : Nat} {ops : Array Oper} {Q : Exit → Act → World → Prop} (J : Nat → Value → World → Prop) (ws : List Nat) (R : Array Value → World → Prop) {a0 : Act} {w : World} (hm : P.follows .mixedOrders = true) (hB : growB ops a0.tmps.size = true)
    (hW : ((List.range ops.size).all fun j => match dstOf ops j with | some s => ws.contains s | none => true) = true) (hJ : ∀ j v w w', J j v w → Lt w w' → J j v w')
    (hstep : ∀ (Q : Exit → Act → World → Prop) (j : Nat) (o : Oper) (a : Act) (w1 : World), ops[j]? = some o → Lt w.drew w1 → a.tmps.size = a0.tmps.size → (∀ s, (∀ j, j < ops.size → dstOf ops j ≠ some s) → a.tmps[s]? = a0.tmps[s]?) →
      (∀ e ∈ o.after, Region.binds .any e = true → J e.on (valOf ops a e.on) w1) → wpOp P ops Q j (fun a' w' => ∃ v, a' = a.put o.dst v ∧ J j (match o.dst with | some _ => v | none => undef) w' ∧ Lt w1 w') a w1)
    (hend : ∀ a w1, Lt w.drew w1 → (∀ j, j < ops.size → J j (valOf ops a j) w1) → R a.tmps w1)
    (k : ∀ (ts : Array Value) (w' : World), R ts w' → Q .normal ⟨fill ts ws a0.tmps, a0.defers⟩ w') : (Code.region id ops true).wp P Q a0 w := by
  refine region_merge ws R (region_growS Lt hr ht J hm hB hJ (hstep _) fun a w1 hb hd hs hold hj => ⟨rfl, hd, hs, ?_, hend a w1 hb hj⟩) k
  apply Array.ext_getElem?
  intro i
  rw [blank_get, blank_get, hs]
  by_cases hi : i ∈ ws
  · by_cases h2 : i < a0.tmps.size
    · rw [if_pos ⟨hi, h2⟩, if_pos ⟨hi, h2⟩]
    · rw [if_neg (fun h => h2 h.2), if_neg (fun h => h2 h.2), Array.getElem?_eq_none (by omega), Array.getElem?_eq_none (by omega)]
  · rw [if_neg (fun h => hi h.1), if_neg (fun h => hi h.1)]
    refine hold i fun j hj e => hi ?_
    have := List.all_eq_true.1 hW j (List.mem_range.2 hj)
    rw [e] at this
    simpa using this
end Go.Proofs.YtjmphlboickhdaaGreatDoor

/- A drawn region, one obligation an operation: what its value is, is said by itself, of any world that stands in a relation (reflexive, transitive) to the one at the beginning; and an invariant says what the world is, by which operations have run (so that an append, or a store, may know that it has not run yet). Own text (gen/XGrowS's, with the invariant). -/
namespace Go.Proofs.YtjmphlboickhdaaGreatDoor
open Go Go.RowKit
set_option linter.unusedVariables false

def upd (d : Nat → Bool) (j : Nat) : Nat → Bool := fun i => if i = j then true else d i
structure GInvI (Lt : World → World → Prop) (I : (Nat → Bool) → World → Prop) (ops : Array Oper) (J : Nat → Value → World → Prop) (a0 : Act) (w0 : World) (listed : Array Bool) (a : Act) (w : World) : Prop where
  b : Lt w0 w
  size : a.tmps.size = a0.tmps.size
  defers : a.defers = a0.defers
  old : ∀ s, (∀ j, j < ops.size → dstOf ops j ≠ some s) → a.tmps[s]? = a0.tmps[s]?
  ls : listed.size = ops.size
  got : ∀ j, j < ops.size → listed.getD j false = true → J j (valOf ops a j) w
  inv : I (fun j => listed.getD j false) w
theorem GInvI.step {Lt : World → World → Prop} {I : (Nat → Bool) → World → Prop} {X : (Nat → Bool) → World → World → Prop} (ht : ∀ a b c, Lt a b → Lt b c → Lt a c) {ops : Array Oper} {J : Nat → Value → World → Prop} {a0 : Act} {w0 : World} (hB : growB ops a0.tmps.size = true) (hJ : ∀ (d : Nat → Bool) (j : Nat) (v : Value) (w w' : World), d j = true → J j v w → Lt w w' → X d w w' → J j v w')
    {listed : Array Bool} {a : Act} {w w' : World} {i : Nat} {o : Oper} {v : Value} (h : GInvI Lt I ops J a0 w0 listed a w) (ho : ops[i]? = some o) (hv : J i (match o.dst with | some _ => v | none => undef) w') (hb : Lt w w') (hI : I (upd (fun j => listed.getD j false) i) w') (hX : X (fun j => listed.getD j false) w w') :
    GInvI Lt I ops J a0 w0 (listed.setIfInBounds i true) (a.put o.dst v) w' := by
  have hi : i < ops.size := (Array.getElem?_eq_some_iff.1 ho).1
  obtain ⟨_, hd⟩ := growB_spec hB ho
  have hdi : dstOf ops i = o.dst := by unfold dstOf; rw [ho]; rfl
  refine ⟨ht _ _ _ h.b hb, ?_, ?_, fun s hs => ?_, by simp [h.ls], fun j hj hl => ?_, ?_⟩
  · unfold Act.put; split <;> simp [h.size]
  · unfold Act.put; split <;> exact h.defers
  · have hne := hs i hi
    rw [hdi] at hne
    unfold Act.put
    split
    · rename_i d hdd
      rw [hdd] at hne
      rw [Array.getElem?_setIfInBounds_ne (by intro e; exact hne (by rw [e]))]
      exact h.old s hs
    · exact h.old s hs
  · by_cases hij : j = i
    · subst hij
      unfold valOf
      rw [hdi]
      unfold Act.put
      cases hdd : o.dst with
      | none => rw [hdd] at hv; exact hv
      | some d =>
        rw [hdd] at hv
        have := (hd d hdd).1
        simp only
        rw [Array.getD_eq_getD_getElem?, Array.getElem?_setIfInBounds_self, if_pos (by rw [h.size]; exact this)]
        exact hv
    · have hl2 : listed.getD j false = true := by
        rw [Array.getD_eq_getD_getElem?, Array.getElem?_setIfInBounds_ne (Ne.symm hij)] at hl
        rw [Array.getD_eq_getD_getElem?]; exact hl
      have hg := hJ (fun j => listed.getD j false) _ _ _ _ hl2 (h.got j hj hl2) hb hX
      have e : valOf ops (a.put o.dst v) j = valOf ops a j := by
        unfold valOf
        cases hdj : dstOf ops j with
        | none => rfl
        | some s =>
          unfold Act.put
          cases hdd : o.dst with
          | none => rfl
          | some d =>
            have hne : d ≠ s := fun e => (hd d hdd).2 j hj hij (by rw [hdj, e])
            simp only
            rw [Array.getD_eq_getD_getElem?, Array.getElem?_setIfInBounds_ne hne, ← Array.getD_eq_getD_getElem?]
      rw [e]; exact hg
  · have e : (fun j => (listed.setIfInBounds i true).getD j false) = upd (fun j => listed.getD j false) i := by
      funext j
      unfold upd
      by_cases hji : j = i
      · subst hji
        rw [if_pos rfl, Array.getD_eq_getD_getElem?, Array.getElem?_setIfInBounds_self, if_pos (by rw [h.ls]; exact hi)]; rfl
      · rw [if_neg hji, Array.getD_eq_getD_getElem?, Array.getElem?_setIfInBounds_ne (fun e => hji e.symm), ← Array.getD_eq_getD_getElem?]
    rw [e]; exact hI
/-- **A drawn region.** -/
theorem wpAny_growI {Lt : World → World → Prop} {I : (Nat → Bool) → World → Prop} {X : (Nat → Bool) → World → World → Prop} (ht : ∀ a b c, Lt a b → Lt b c → Lt a c) {P : Program} {ops : Array Oper} {Q : Exit → Act → World → Prop} {J : Nat → Value → World → Prop} {a0 : Act} {w0 : World} (hB : growB ops a0.tmps.size = true) (hJ : ∀ (d : Nat → Bool) (j : Nat) (v : Value) (w w' : World), d j = true → J j v w → Lt w w' → X d w w' → J j v w')
    (hstep : ∀ (d : Nat → Bool) (j : Nat) (o : Oper) (a : Act) (w : World), ops[j]? = some o → d j = false → (∀ e ∈ o.after, Region.binds .any e = true → d e.on = true) → I d w → Lt w0 w → a.tmps.size = a0.tmps.size → (∀ s, (∀ j, j < ops.size → dstOf ops j ≠ some s) → a.tmps[s]? = a0.tmps[s]?) →
      (∀ e ∈ o.after, Region.binds .any e = true → J e.on (valOf ops a e.on) w) → wpOp P ops Q j (fun a' w' => ∃ v, a' = a.put o.dst v ∧ J j (match o.dst with | some _ => v | none => undef) w' ∧ Lt w w' ∧ I (upd d j) w' ∧ X d w w') a w)
    (hend : ∀ a w, I (fun j => decide (j < ops.size)) w → Lt w0 w → a.defers = a0.defers → a.tmps.size = a0.tmps.size → (∀ s, (∀ j, j < ops.size → dstOf ops j ≠ some s) → a.tmps[s]? = a0.tmps[s]?) → (∀ j, j < ops.size → J j (valOf ops a j) w) → Q .normal a w) :
    ∀ (fuel : Nat) (listed : Array Bool) (a : Act) (w : World), GInvI Lt I ops J a0 w0 listed a w → listed.toList.count false = fuel → wpAny P .any ops Q fuel listed a w
  | fuel, listed, a, w, inv, hc => by
    have fin : Region.ready .any ops listed = [] → Q .normal a w := fun h0 => by
      have hall : ∀ j, j < ops.size → listed.getD j false = true := by
        intro j
        induction j using Nat.strongRecOn with
        | _ j ih =>
          intro hj
          cases hl : listed.getD j false with
          | true => rfl
          | false =>
            exfalso
            obtain ⟨o, ho⟩ : ∃ o, ops[j]? = some o := ⟨_, Array.getElem?_eq_getElem hj⟩
            have : j ∈ Region.ready .any ops listed := mem_ready.2 ⟨by
              rw [Array.getD_eq_getD_getElem?] at hl ⊢
              rw [Array.getElem?_eq_getElem (by rw [inv.ls]; exact hj)] at hl ⊢
              exact hl, o, ho, fun e he hb => ih e.on ((growB_spec hB ho).1 e he hb) (by have := (growB_spec hB ho).1 e he hb; omega)⟩
            rw [h0] at this; cases this
      exact hend a w (by
        have e : (fun j => listed.getD j false) = fun j => decide (j < ops.size) := by
          funext j
          by_cases hj : j < ops.size
          · simp only [hall j hj, hj, decide_true]
          · rw [Array.getD_eq_getD_getElem?, Array.getElem?_eq_none (by rw [inv.ls]; omega)]
            simp [hj]
        rw [← e]; exact inv.inv) inv.b inv.defers inv.size inv.old fun j hj => inv.got j hj (hall j hj)
    cases fuel with
    | zero =>
      refine ⟨?_, ?_⟩
      · cases hr : Region.ready .any ops listed with
        | nil => rfl
        | cons i t =>
          exfalso
          have hi : i ∈ Region.ready .any ops listed := by rw [hr]; exact List.mem_cons_self ..
          obtain ⟨hun, o, ho, _⟩ := mem_ready.1 hi
          have hlt : i < listed.size := by rw [inv.ls]; exact (Array.getElem?_eq_some_iff.1 ho).1
          have := List.count_eq_zero.1 hc
          rw [Array.getD_eq_getD_getElem?, Array.getElem?_eq_getElem hlt] at hun
          exact this (by rw [← show listed[i] = false from hun]; exact Array.getElem_mem_toList hlt)
      · refine fin ?_
        cases hr : Region.ready .any ops listed with
        | nil => rfl
        | cons i t =>
          exfalso
          have hi : i ∈ Region.ready .any ops listed := by rw [hr]; exact List.mem_cons_self ..
          obtain ⟨hun, o, ho, _⟩ := mem_ready.1 hi
          have hlt : i < listed.size := by rw [inv.ls]; exact (Array.getElem?_eq_some_iff.1 ho).1
          have := List.count_eq_zero.1 hc
          rw [Array.getD_eq_getD_getElem?, Array.getElem?_eq_getElem hlt] at hun
          exact this (by rw [← show listed[i] = false from hun]; exact Array.getElem_mem_toList hlt)
    | succ f =>
      refine ⟨fin, fun i hi => ?_⟩
      obtain ⟨hun, o, ho, hdep⟩ := mem_ready.1 hi
      have hlt : i < listed.size := by rw [inv.ls]; exact (Array.getElem?_eq_some_iff.1 ho).1
      refine wpOp_mono (fun a' w' hh => ?_) (hstep _ i o a w ho (by rw [Array.getD_eq_getD_getElem?] at hun ⊢; rw [Array.getElem?_eq_getElem hlt] at hun ⊢; exact hun) hdep inv.inv inv.b inv.size inv.old fun e he hb => inv.got e.on (by have := (growB_spec hB ho).1 e he hb; have := (Array.getElem?_eq_some_iff.1 ho).1; omega) (hdep e he hb))
      obtain ⟨v, rfl, hv, hb, hI, hX⟩ := hh
      have hcount : (listed.setIfInBounds i true).toList.count false = f := by
        obtain ⟨l⟩ := listed
        simp only [List.size_toArray] at hlt
        simp [hlt] at hun
        simp only [List.setIfInBounds_toArray]
        have hm : l.count false ≠ 0 := by
          intro h0
          exact List.count_eq_zero.1 h0 (hun ▸ List.getElem_mem hlt)
        simp only at hc
        rw [List.count_set hlt, hun]
        simp
        omega
      exact wpAny_growI ht hB hJ hstep hend f _ _ _ (inv.step ht hB hJ ho hv hb hI hX) hcount
theorem region_growI (Lt : World → World → Prop) (I : (Nat → Bool) → World → Prop) (X : (Nat → Bool) → World → World → Prop) (hr : ∀ w, Lt w w) (ht : ∀ a b c, Lt a b → Lt b c → Lt a c) {P : Program} {id : Nat} {ops : Array Oper} {Q : Exit → Act → World → Prop} (J : Nat → Value → World → Prop) {a0 : Act} {w : World} (hm : P.follows .mixedOrders = true) (hB : growB ops a0.tmps.size = true) (hJ : ∀ (d : Nat → Bool) (j : Nat) (v : Value) (w w' : World), d j = true → J j v w → Lt w w' → X d w w' → J j v w') (h0 : I (fun _ => false) w.drew)
    (hstep : ∀ (d : Nat → Bool) (j : Nat) (o : Oper) (a : Act) (w1 : World), ops[j]? = some o → d j = false → (∀ e ∈ o.after, Region.binds .any e = true → d e.on = true) → I d w1 → Lt w.drew w1 → a.tmps.size = a0.tmps.size → (∀ s, (∀ j, j < ops.size → dstOf ops j ≠ some s) → a.tmps[s]? = a0.tmps[s]?) →
      (∀ e ∈ o.after, Region.binds .any e = true → J e.on (valOf ops a e.on) w1) → wpOp P ops Q j (fun a' w' => ∃ v, a' = a.put o.dst v ∧ J j (match o.dst with | some _ => v | none => undef) w' ∧ Lt w1 w' ∧ I (upd d j) w' ∧ X d w1 w') a w1)
    (hend : ∀ a w1, I (fun j => decide (j < ops.size)) w1 → Lt w.drew w1 → a.defers = a0.defers → a.tmps.size = a0.tmps.size → (∀ s, (∀ j, j < ops.size → dstOf ops j ≠ some s) → a.tmps[s]? = a0.tmps[s]?) → (∀ j, j < ops.size → J j (valOf ops a j) w1) → Q .normal a w1) : (Code.region id ops true).wp P Q a0 w := by
  refine wp_region_any hm ?_
  exact wpAny_growI ht (w0 := w.drew) hB hJ hstep hend _ _ _ _ ⟨hr _, rfl, rfl, fun s _ => rfl, by simp, fun j hj hl => by rw [Array.getD_eq_getD_getElem?] at hl; simp [hj] at hl, by
    have e : (fun j => (Array.replicate ops.size false).getD j false) = fun _ => false := by
      funext j
      rw [Array.getD_eq_getD_getElem?, Array.getElem?_replicate]
      split <;> rfl
    rw [e]; exact h0⟩ (by simp)
/-- An operation that gives a value. -/
theorem growI_val {Lt : World → World → Prop} {I : (Nat → Bool) → World → Prop} {X : (Nat → Bool) → World → World → Prop} {d : Nat → Bool} {P : Program} {ops : Array Oper} {Q : Exit → Act → World → Prop} {J : Nat → Value → World → Prop} {a : Act} {w : World} {j : Nat} {o : Oper} (v : Value) (w' : World) (ho : ops[j]? = some o) (hw : Region.wanted o (yielded ops a.tmps) = true)
    (hr : (execOp a.eval o).run P w = .ok (.value v) w') (hb : Lt w w') (hI : I (upd d j) w') (hX : X d w w') (hJ : J j (match o.dst with | some _ => v | none => undef) w') : wpOp P ops Q j (fun a' w' => ∃ v, a' = a.put o.dst v ∧ J j (match o.dst with | some _ => v | none => undef) w' ∧ Lt w w' ∧ I (upd d j) w' ∧ X d w w') a w := by
  unfold wpOp
  rw [ho]
  simp only [hw, if_true]
  left
  unfold Oper.wp
  rw [hr]
  exact ⟨v, rfl, hJ, hb, hI, hX⟩
/-- An operation that writes memory. -/
theorem growI_skip {Lt : World → World → Prop} {I : (Nat → Bool) → World → Prop} {X : (Nat → Bool) → World → World → Prop} {d : Nat → Bool} {P : Program} {ops : Array Oper} {Q : Exit → Act → World → Prop} {J : Nat → Value → World → Prop} {a : Act} {w : World} {j : Nat} {o : Oper} (w' : World) (ho : ops[j]? = some o) (hw : Region.wanted o (yielded ops a.tmps) = true)
    (hn : o.dst = none) (hr : (execOp a.eval o).run P w = .ok .skip w') (hb : Lt w w') (hI : I (upd d j) w') (hX : X d w w') (hJ : J j undef w') : wpOp P ops Q j (fun a' w' => ∃ v, a' = a.put o.dst v ∧ J j (match o.dst with | some _ => v | none => undef) w' ∧ Lt w w' ∧ I (upd d j) w' ∧ X d w w') a w := by
  unfold wpOp
  rw [ho]
  simp only [hw, if_true]
  left
  unfold Oper.wp
  rw [hr]
  exact ⟨undef, by unfold Act.put; rw [hn], by rw [hn]; exact hJ, hb, hI, hX⟩
/-- An operation that calls. -/
theorem growI_call {Lt : World → World → Prop} {I : (Nat → Bool) → World → Prop} {X : (Nat → Bool) → World → World → Prop} {d : Nat → Bool} {P : Program} {ops : Array Oper} {Q : Exit → Act → World → Prop} {J : Nat → Value → World → Prop} {a : Act} {w : World} {j : Nat} {o : Oper} (f : FuncId) (args : Array Value) (ho : ops[j]? = some o) (hw : Region.wanted o (yielded ops a.tmps) = true)
    (hr : (execOp a.eval o).run P w = .ok (.enter f args) w) (hc : Calls P f args w fun e w' => ∃ v, e = .returned v ∧ J j (match o.dst with | some _ => v | none => undef) w' ∧ Lt w w' ∧ I (upd d j) w' ∧ X d w w') : wpOp P ops Q j (fun a' w' => ∃ v, a' = a.put o.dst v ∧ J j (match o.dst with | some _ => v | none => undef) w' ∧ Lt w w' ∧ I (upd d j) w' ∧ X d w w') a w := by
  unfold wpOp
  rw [ho]
  simp only [hw, if_true]
  left
  unfold Oper.wp
  rw [hr, Oper.upon_enter]
  refine Calls.mono hc fun e w' ⟨v, he, h1, h2, h3, h4⟩ => ?_
  subst he
  exact ⟨v, rfl, h1, h2, h3, h4⟩
/-- An operation that is not wanted. -/
theorem growI_not {Lt : World → World → Prop} {I : (Nat → Bool) → World → Prop} {X : (Nat → Bool) → World → World → Prop} {d : Nat → Bool} {P : Program} {ops : Array Oper} {Q : Exit → Act → World → Prop} {J : Nat → Value → World → Prop} {a : Act} {w : World} {j : Nat} {o : Oper} (ho : ops[j]? = some o) (hw : Region.wanted o (yielded ops a.tmps) = false)
    (hb : Lt w w) (hI : I (upd d j) w) (hX : X d w w) (hJ : J j undef w) : wpOp P ops Q j (fun a' w' => ∃ v, a' = a.put o.dst v ∧ J j (match o.dst with | some _ => v | none => undef) w' ∧ Lt w w' ∧ I (upd d j) w' ∧ X d w w') a w := by
  unfold wpOp
  rw [ho]
  simp only [hw]
  exact ⟨undef, rfl, by cases o.dst <;> exact hJ, hb, hI, hX⟩
theorem region_growI_merge (Lt : World → World → Prop) (I : (Nat → Bool) → World → Prop) (X : (Nat → Bool) → World → World → Prop) (hr : ∀ w, Lt w w) (ht : ∀ a b c, Lt a b → Lt b c → Lt a c) {P : Program} {id : Nat} {ops : Array Oper} {Q : Exit → Act → World → Prop} (J : Nat → Value → World → Prop) (ws : List Nat) (R : Array Value → World → Prop) {a0 : Act} {w : World} (hm : P.follows .mixedOrders = true) (hB : growB ops a0.tmps.size = true)
    (hW : ((List.range ops.size).all fun j => match dstOf ops j with | some s => ws.contains s | none => true) = true) (hJ : ∀ (d : Nat → Bool) (j : Nat) (v : Value) (w w' : World), d j = true → J j v w → Lt w w' → X d w w' → J j v w') (h0 : I (fun _ => false) w.drew)
    (hstep : ∀ (Q : Exit → Act → World → Prop) (d : Nat → Bool) (j : Nat) (o : Oper) (a : Act) (w1 : World), ops[j]? = some o → d j = false → (∀ e ∈ o.after, Region.binds .any e = true → d e.on = true) → I d w1 → Lt w.drew w1 → a.tmps.size = a0.tmps.size → (∀ s, (∀ j, j < ops.size → dstOf ops j ≠ some s) → a.tmps[s]? = a0.tmps[s]?) →
      (∀ e ∈ o.after, Region.binds .any e = true → J e.on (valOf ops a e.on) w1) → wpOp P ops Q j (fun a' w' => ∃ v, a' = a.put o.dst v ∧ J j (match o.dst with | some _ => v | none => undef) w' ∧ Lt w1 w' ∧ I (upd d j) w' ∧ X d w1 w') a w1)
    (hend : ∀ a w1, I (fun j => decide (j < ops.size)) w1 → Lt w.drew w1 → (∀ j, j < ops.size → J j (valOf ops a j) w1) → R a.tmps w1)
    (k : ∀ (ts : Array Value) (w' : World), R ts w' → Q .normal ⟨fill ts ws a0.tmps, a0.defers⟩ w') : (Code.region id ops true).wp P Q a0 w := by
  refine region_merge ws R (region_growI Lt I X hr ht J hm hB hJ h0 (hstep _) fun a w1 hi hb hd hs hold hj => ⟨rfl, hd, hs, ?_, hend a w1 hi hb hj⟩) k
  apply Array.ext_getElem?
  intro i
  rw [blank_get, blank_get, hs]
  by_cases hi : i ∈ ws
  · by_cases h2 : i < a0.tmps.size
    · rw [if_pos ⟨hi, h2⟩, if_pos ⟨hi, h2⟩]
    · rw [if_neg (fun h => h2 h.2), if_neg (fun h => h2 h.2), Array.getElem?_eq_none (by omega), Array.getElem?_eq_none (by omega)]
  · rw [if_neg (fun h => hi h.1), if_neg (fun h => hi h.1)]
    refine hold i fun j hj e => hi ?_
    have := List.all_eq_true.1 hW j (List.mem_range.2 hj)
    rw [e] at this
    simpa using this
/-- What an operation's value is: a property that later worlds keep. -/
structure Spc (Lt : World → World → Prop) where
  f : Value → World → Prop
  keep : ∀ v w w', f v w → Lt w w' → f v w'
def Spc.eq {Lt : World → World → Prop} (u : Value) : Spc Lt := ⟨fun v _ => v = u, fun _ _ _ h _ => h⟩
def Spc.any {Lt : World → World → Prop} : Spc Lt := ⟨fun _ _ => True, fun _ _ _ _ _ => trivial⟩
def kjI {Lt : World → World → Prop} (L : Array (Spc Lt)) (j : Nat) (v : Value) (w : World) : Prop := (L.getD j Spc.any).f v w
theorem kjI_later {Lt : World → World → Prop} {X : (Nat → Bool) → World → World → Prop} {L : Array (Spc Lt)} : ∀ (d : Nat → Bool) (j : Nat) (v : Value) (w w' : World), d j = true → kjI L j v w → Lt w w' → X d w w' → kjI L j v w' := fun d j v w w' _ h hb _ => (L.getD j Spc.any).keep v w w' h hb
/-- One operation's value is said by F, which only steps behind it must keep (an append into what is owned). -/
def kjP {Lt : World → World → Prop} (p : Nat) (F : Value → World → Prop) (L : Array (Spc Lt)) (j : Nat) (v : Value) (w : World) : Prop := if j = p then F v w else kjI L j v w
theorem kjP_later {Lt : World → World → Prop} {p : Nat} {F : Value → World → Prop} {L : Array (Spc Lt)} : ∀ (d : Nat → Bool) (j : Nat) (v : Value) (w w' : World), d j = true → kjP p F L j v w → Lt w w' → (d p = true → ∀ v, F v w → F v w') → kjP p F L j v w' := fun d j v w w' hd h hb hX => by
  unfold kjP at h ⊢
  by_cases hj : j = p
  · subst hj
    rw [if_pos rfl] at h ⊢
    exact hX hd v h
  · rw [if_neg hj] at h ⊢
    exact kjI_later (X := fun _ _ _ => True) d j v w w' hd h hb trivial
theorem yieldedI {ops : Array Oper} {ts : Array Value} {j s : Nat} {b : Bool} (h : dstOf ops j = some s) (e : ts.getD s undef = .bool b) : yielded ops ts j = some b := by
  unfold yielded
  have h' : (ops[j]?).bind (·.dst) = some s := h
  rw [h']
  rw [Array.getD_eq_getD_getElem?] at e
  simp only [Option.bind_some]
  cases hh : ts[s]? with
  | none => rw [hh] at e; cases e
  | some v => rw [hh] at e; simp only [Option.getD_some] at e; rw [e]
theorem wantedI {o : Oper} {y : Nat → Option Bool} {j : Nat} {b : Bool} (h : o.guard = some (j, b)) (e : y j = some b) : Region.wanted o y = true := by
  unfold Region.wanted
  rw [h]
  simp [e]
theorem unwantedI {o : Oper} {y : Nat → Option Bool} {j : Nat} {b c : Bool} (h : o.guard = some (j, b)) (e : y j = some c) (hn : c ≠ b) : Region.wanted o y = false := by
  unfold Region.wanted
  rw [h]
  simp [e, hn]
end Go.Proofs.YtjmphlboickhdaaGreatDoor

/- The law's column, plainly: what a seed's numbers make. -/
namespace Go.Proofs.YtjmphlboickhdaaGreatDoor.Sc
open Cl
set_option linter.unusedVariables false
set_option linter.unusedSimpArgs false
set_option maxRecDepth 100000

def mstr (n : Int) : ByteArray := if n = 0 then ⟨#[]⟩ else if n = 1 then ⟨#[97, 32, 98]⟩ else if n = 2 then ⟨#[34, 10]⟩ else if n = 3 then ⟨#[195, 164]⟩ else ⟨#[110, 117, 108, 108]⟩
def mbyt (n : Int) : ByteArray := if n = 0 then ⟨#[]⟩ else if n = 1 then ⟨#[0, 255]⟩ else if n = 2 then ⟨#[120]⟩ else if n = 3 then ⟨#[32]⟩ else ⟨#[10]⟩
def mnum (n : Int) : Int := if n = 0 then 0 else if n = 1 then 1 else if n = 2 then 2147483647 else if n = 3 then -2147483648 else 7
/-- Of numbers. -/
def mcell0 (n : Int) : C := ⟨false, mnum n, ⟨#[]⟩⟩
/-- The default of a kind. -/
def mcell (k n : Int) (u : Bool) : C :=
  if (decide (n = 0) && u) = true then ⟨true, 0, ⟨#[]⟩⟩ else if k = 1 then ⟨false, n % 2, ⟨#[]⟩⟩ else if k = 3 ∧ n > 2 then ⟨false, -9223372036854775808, ⟨#[]⟩⟩
  else if k = 4 then ⟨false, 0, mstr n⟩ else if k = 5 then ⟨false, 0, mbyt n⟩ else ⟨false, mnum n, ⟨#[]⟩⟩
theorem mcell_no {k n : Int} {u : Bool} (h : (decide (n = 0) && u) = false) : mcell k n u = mcell k n false := by
  unfold mcell
  rw [h]; simp
theorem mcell_yes {k n : Int} {u : Bool} (h : (decide (n = 0) && u) = true) : mcell k n u = ⟨true, 0, ⟨#[]⟩⟩ := by
  unfold mcell
  rw [h]; rfl
def mbase (z : Int) : ByteArray := if z = 0 then ⟨#[97]⟩ else if z = 1 then ⟨#[105, 100]⟩ else if z = 2 then ⟨#[110, 95, 49]⟩ else if z = 3 then ⟨#[120, 57]⟩ else ⟨#[118, 97, 108, 117, 101]⟩
def letters : ByteArray := ⟨#[97, 98, 99, 100, 101, 102, 103, 104, 105, 106, 107, 108, 109, 110, 111, 112]⟩
def mname (z : Int) (i : Nat) : ByteArray := (mbase z ++ ⟨#[95]⟩) ++ letters.extract i (i + 1)
def mcol (a b c d e id : Int) (i : Nat) : Co := ⟨id + 1 + e % 9, mname (c % 5) i, 1 + a % 5, decide (b % 3 = 0), mcell (1 + a % 5) (d % 5) (decide (b % 3 = 0))⟩
theorem five {x : Int} : x % 5 = 0 ∨ x % 5 = 1 ∨ x % 5 = 2 ∨ x % 5 = 3 ∨ x % 5 = 4 := by omega
theorem letter_bl : ∀ i : Fin 16, bl (letters.extract i.1 (i.1 + 1)) = [97 + i.1] := by decide
theorem letter_size (i : Nat) (h : i < 16) : (letters.extract i (i + 1)).size = 1 := by
  rw [ByteArray.size_extract]; unfold letters; simp [ByteArray.size]; omega
theorem mname_bl (z : Int) (i : Nat) (h : i < 16) : bl (mname z i) = bl (mbase z) ++ [95, 97 + i] := by
  unfold mname
  rw [bl_append, bl_append, letter_bl ⟨i, h⟩]
  show (bl (mbase z) ++ [95]) ++ [97 + i] = _
  simp
theorem mname_name (x : Int) (i : Nat) (h : i < 16) : name (bl (mname (x % 5) i)) = true := by
  rw [mname_bl _ i h]
  have hi : isn (97 + i) = true := by unfold isn isl; simp; omega
  rcases @five x with e | e | e | e | e <;> rw [e]
  · show name [97, 95, 97 + i] = true
    simp [name, hi]; decide
  · show name [105, 100, 95, 97 + i] = true
    simp [name, hi]; decide
  · show name [110, 95, 49, 95, 97 + i] = true
    simp [name, hi]; decide
  · show name [120, 57, 95, 97 + i] = true
    simp [name, hi]; decide
  · show name [118, 97, 108, 117, 101, 95, 97 + i] = true
    simp [name, hi]; decide
/-- Names of other places are others. -/
theorem mname_apart (x y : Int) (i j : Nat) (h : i < 16) (h2 : j < 16) (e : bl (mname x i) = bl (mname y j)) : i = j := by
  rw [mname_bl _ i h, mname_bl _ j h2] at e
  have := congrArg List.getLast? e
  simp at this
  omega
theorem mcell_ok (a d : Int) (u : Bool) : chk u (1 + a % 5) (mcell (1 + a % 5) (d % 5) u) = 0 := by
  rcases @five a with e | e | e | e | e <;> rcases @five d with e2 | e2 | e2 | e2 | e2 <;> rw [e, e2] <;> cases u <;> decide
theorem mcell_i64 (a d : Int) (u : Bool) : I64 (mcell (1 + a % 5) (d % 5) u).n := by
  unfold I64
  rcases @five a with e | e | e | e | e <;> rcases @five d with e2 | e2 | e2 | e2 | e2 <;> rw [e, e2] <;> cases u <;> decide
theorem mcell_size (a d : Int) (u : Bool) : (mcell (1 + a % 5) (d % 5) u).s.size ≤ 4 := by
  rcases @five a with e | e | e | e | e <;> rcases @five d with e2 | e2 | e2 | e2 | e2 <;> rw [e, e2] <;> cases u <;> decide
theorem mbase_size (z : Int) : (mbase z).size ≤ 5 := by
  unfold mbase
  repeat' split
  all_goals decide
end Go.Proofs.YtjmphlboickhdaaGreatDoor.Sc

/- The law's made, plainly: columns out of a seed's numbers may be, and so may the keys that it takes. -/
namespace Go.Proofs.YtjmphlboickhdaaGreatDoor.Sc
open Cl
set_option linter.unusedVariables false
set_option linter.unusedSimpArgs false

def prevId (l : List Co) (j : Nat) : Int := if j = 0 then 0 else (l.getD (j - 1) co0).id
/-- Columns that were made, and the last one's id. -/
structure MC (l : List Co) (id : Int) : Prop where
  at_ : ∀ j c, l[j]? = some c → ∃ a b c' d e, c = mcol a b c' d e (prevId l j) j
  id : id = prevId l l.length
theorem MC.nil : MC [] 0 := ⟨fun j c h => by simp at h, rfl⟩
theorem prevId_app {l m : List Co} {j : Nat} (h : j ≤ l.length) : prevId (l ++ m) j = prevId l j := by
  unfold prevId
  by_cases h0 : j = 0
  · rw [if_pos h0, if_pos h0]
  · rw [if_neg h0, if_neg h0, List.getD_eq_getElem?_getD, List.getD_eq_getElem?_getD, List.getElem?_append_left (by omega)]
theorem MC.snoc {l : List Co} {id : Int} (h : MC l id) (a b c d e : Int) : MC (l ++ [mcol a b c d e id l.length]) (mcol a b c d e id l.length).id := by
  refine ⟨fun j x hx => ?_, ?_⟩
  · rcases Nat.lt_or_ge j l.length with hj | hj
    · rw [List.getElem?_append_left hj] at hx
      rw [prevId_app (by omega)]
      exact h.at_ j x hx
    · have hj2 : j < (l ++ [mcol a b c d e id l.length]).length := (List.getElem?_eq_some_iff.1 hx).1
      have hj3 : j = l.length := by simp at hj2; omega
      subst hj3
      rw [List.getElem?_append_right (by omega)] at hx
      simp at hx
      rw [prevId_app (by omega), ← h.id]
      exact ⟨a, b, c, d, e, hx.symm⟩
  · unfold prevId
    rw [if_neg (by simp), List.getD_eq_getElem?_getD, List.getElem?_append_right (by simp)]
    simp
theorem MC.prev {l : List Co} {id : Int} (h : MC l id) : ∀ j, j ≤ l.length → 0 ≤ prevId l j ∧ prevId l j ≤ 9 * j
  | 0, _ => by unfold prevId; simp
  | j + 1, hj => by
    obtain ⟨h1, h2⟩ := MC.prev h j (by omega)
    obtain ⟨c, hc⟩ : ∃ c, l[j]? = some c := ⟨_, List.getElem?_eq_getElem (by omega)⟩
    obtain ⟨a, b, c', d, e, rfl⟩ := h.at_ j c hc
    have e1 : prevId l (j + 1) = prevId l j + 1 + e % 9 := by
      conv => lhs; unfold prevId
      rw [if_neg (by omega), Nat.add_sub_cancel, getD_of hc]
      rfl
    rw [e1]
    omega
theorem MC.id_bound {l : List Co} {id : Int} (h : MC l id) : 0 ≤ id ∧ id ≤ 9 * l.length := by
  have := h.prev l.length (Nat.le_refl _)
  rw [← h.id] at this
  exact this
theorem MC.okC {l : List Co} {id : Int} (h : MC l id) (h1 : 1 ≤ l.length) (h16 : l.length ≤ 16) : okC l = true := by
  refine okC_iff.2 ⟨⟨h1, by omega⟩, fun i c hc => ?_⟩
  have hi : i < l.length := (List.getElem?_eq_some_iff.1 hc).1
  obtain ⟨p1, p2⟩ := h.prev i (by omega)
  obtain ⟨a, b, c', d, e, rfl⟩ := h.at_ i c hc
  refine okAt_parts.2 ⟨⟨?_, ?_⟩, mname_name _ _ (by omega), mcell_ok _ _ _, ?_⟩
  · have e1 : least l i = prevId l i + 1 := by
      unfold least prevId
      split <;> simp
    rw [e1]
    show _ ≤ prevId l i + 1 + e % 9
    omega
  · show prevId l i + 1 + e % 9 ≤ _
    omega
  · unfold fresh
    rw [List.all_eq_true]
    intro x hx
    obtain ⟨j, hj⟩ := List.getElem?_of_mem hx
    have hji : j < i := by
      have := (List.getElem?_eq_some_iff.1 hj).1
      simp at this; omega
    rw [List.getElem?_take_of_lt hji] at hj
    obtain ⟨a2, b2, c2, d2, e2, rfl⟩ := h.at_ j x hj
    rw [decide_eq_true_eq]
    intro hh
    have := mname_apart _ _ j i (by omega) (by omega) hh
    omega
theorem okK_nil (l : List Co) : okK l [] = true := okK_iff.2 ⟨by simp, fun i k h => by simp at h⟩
theorem okKAt_parts {l : List Co} {ks : List Int} {i : Nat} {k : Int} : okKAt l ks i k = true ↔ (leastK ks i ≤ k ∧ k < (l.length : Int)) ∧ (l.getD k.toNat co0).u = false := by
  unfold okKAt
  simp
theorem leastK_app {ks m : List Int} {i : Nat} (h : i ≤ ks.length) : leastK (ks ++ m) i = leastK ks i := by
  unfold leastK
  by_cases h0 : i = 0
  · rw [if_pos h0, if_pos h0]
  · rw [if_neg h0, if_neg h0, List.getD_eq_getElem?_getD, List.getD_eq_getElem?_getD, List.getElem?_append_left (by omega)]
theorem leastK_pos {l : List Co} {ks : List Int} (h : okK l ks = true) : ∀ i, i ≤ ks.length → 0 ≤ leastK ks i
  | 0, _ => by simp [leastK]
  | i + 1, hi => by
    obtain ⟨k, hk⟩ : ∃ k, ks[i]? = some k := ⟨_, List.getElem?_eq_getElem (by omega)⟩
    have h1 := (okKAt_parts.1 ((okK_iff.1 h).2 i k hk)).1.1
    have h2 := leastK_pos h i (by omega)
    unfold leastK
    rw [if_neg (by omega), Nat.add_sub_cancel, getD_of hk]
    omega
/-- A column more. -/
theorem okK_col {l : List Co} {ks : List Int} (c : Co) (h : okK l ks = true) : okK (l ++ [c]) ks = true := by
  obtain ⟨h1, h2⟩ := okK_iff.1 h
  refine okK_iff.2 ⟨h1, fun i k hk => ?_⟩
  obtain ⟨⟨p1, p2⟩, p3⟩ := okKAt_parts.1 (h2 i k hk)
  have hp := leastK_pos h i (by have := (List.getElem?_eq_some_iff.1 hk).1; omega)
  refine okKAt_parts.2 ⟨⟨p1, by simp; omega⟩, ?_⟩
  rw [List.getD_eq_getElem?_getD, List.getElem?_append_left (by omega), ← List.getD_eq_getElem?_getD]
  exact p3
/-- A column more, of the key. -/
theorem okK_key {l : List Co} {ks : List Int} (c : Co) (h : okK l ks = true) (hu : c.u = false) (h8 : ks.length < 8) : okK (l ++ [c]) (ks ++ [(l.length : Int)]) = true := by
  have hc := okK_iff.1 (okK_col c h)
  have ho := okK_iff.1 h
  refine okK_iff.2 ⟨by simp; omega, fun i k hk => ?_⟩
  rcases Nat.lt_or_ge i ks.length with hi | hi
  · rw [List.getElem?_append_left hi] at hk
    obtain ⟨p1, p2⟩ := okKAt_parts.1 (hc.2 i k hk)
    exact okKAt_parts.2 ⟨by rw [leastK_app (by omega)]; exact p1, p2⟩
  · have hi2 := (List.getElem?_eq_some_iff.1 hk).1
    have hi3 : i = ks.length := by simp at hi2; omega
    subst hi3
    rw [List.getElem?_append_right (by omega)] at hk
    simp at hk
    subst hk
    refine okKAt_parts.2 ⟨⟨?_, by simp; omega⟩, ?_⟩
    · rw [leastK_app (by omega)]
      unfold leastK
      split
      · omega
      · next h0 =>
        obtain ⟨k, hk⟩ : ∃ k, ks[ks.length - 1]? = some k := ⟨_, List.getElem?_eq_getElem (by omega)⟩
        rw [getD_of hk]
        have := (okKAt_parts.1 (ho.2 _ k hk)).1.2
        omega
    · rw [List.getD_eq_getElem?_getD, Int.toNat_natCast, List.getElem?_append_right (by omega)]
      simpa using hu
end Go.Proofs.YtjmphlboickhdaaGreatDoor.Sc

/- A seed's rows of five numbers in memory. -/
namespace Go.Proofs.YtjmphlboickhdaaGreatDoor
open Go.RowKit
set_option linter.unusedVariables false
set_option maxRecDepth 100000

structure S5 where
  a : Int
  b : Int
  c : Int
  d : Int
  e : Int
def s5c (x : S5) : List Value := [.int .i64 x.a, .int .i64 x.b, .int .i64 x.c, .int .i64 x.d, .int .i64 x.e]
theorem s5L : Gn.Lay s5c 5 := ⟨fun _ => rfl, fun x v hv => by simp [s5c] at hv; rcases hv with rfl | rfl | rfl | rfl | rfl <;> rfl, by omega⟩
def RdA (w : World) (B : Nat) (v : Value) (l : List S5) : Prop := Gn.Rd s5c 5 w B v l
theorem RdA.later {w w' : World} {v : Value} {l : List S5} (h : RdA w w.heap.size v l) (hb : Below w.heap.size w w') : RdA w' w'.heap.size v l := Gn.Rd.later h hb
structure S5.In (x : S5) : Prop where
  a : Cl.I64 x.a
  b : Cl.I64 x.b
  c : Cl.I64 x.c
  d : Cl.I64 x.d
  e : Cl.I64 x.e
theorem rdA_cells {W w : World} {B n c : Nat} {ad : Option Addr} {l : List S5} (h : RdA W B (.slice ad n c) l) (hb : Below B W w) {i : Nat} {x : S5} (hi : l[i]? = some x) :
    ∃ b off, ad = some ⟨b, off, none⟩ ∧ w.cell? ⟨b, off + i * 5, none⟩ = some (.int .i64 x.a) ∧ w.cell? ⟨b, off + i * 5 + 1, none⟩ = some (.int .i64 x.b) ∧ w.cell? ⟨b, off + i * 5 + 2, none⟩ = some (.int .i64 x.c) ∧ w.cell? ⟨b, off + i * 5 + 3, none⟩ = some (.int .i64 x.d) ∧ w.cell? ⟨b, off + i * 5 + 4, none⟩ = some (.int .i64 x.e) := by
  obtain ⟨hl, e⟩ := List.getElem?_eq_some_iff.1 hi
  obtain ⟨b, off, rfl, _, hc⟩ := Gn.Rd.at h hb hl
  rw [e] at hc
  exact ⟨b, off, rfl, hc 0 _ rfl, hc 1 _ rfl, hc 2 _ rfl, hc 3 _ rfl, hc 4 _ rfl⟩
/-- A seed that came in. -/
structure SeedIn (W : World) (v : Value) (l : List S5) (K : Int) : Prop where
  rd : RdA W W.heap.size v l
  in_ : ∀ x ∈ l, S5.In x
  k : Cl.I64 K
end Go.Proofs.YtjmphlboickhdaaGreatDoor

/- The law's helpers Bring and column: a column out of five numbers. -/
namespace Go.Proofs.YtjmphlboickhdaaGreatDoor
open Go.RowKit Go.Sort
set_option linter.unusedVariables false
set_option linter.unusedSimpArgs false
set_option maxRecDepth 100000

theorem bring_eq (x n : Int) (hn : 0 < n) (hn' : n ≤ 1000000) : (x.tmod n < 0 → wrap64 (x.tmod n + n) = x % n) ∧ (0 ≤ x.tmod n → x.tmod n = x % n) := by
  unfold wrap64
  have h := Int.tmod_eq_emod (a := x) (b := n)
  have h2 := Int.emod_nonneg x (b := n) (by omega)
  have h3 := Int.emod_lt_of_pos x hn
  split at h <;> constructor <;> intro h5 <;> omega
set_option maxHeartbeats 400000 in
theorem bring (x n : Int) (w : World) (h : Cl.I64 x) (hn : 0 < n) (hn' : n ≤ 1000000) :
    Calls Tryz.prog 30 #[.int .i64 x, .int .i64 n] w fun e w' => e = .returned (.int .i64 (x % n)) ∧ w = w' := by
  have h0 : -9223372036854775808 ≤ x := h.1
  have h1 : x ≤ 9223372036854775807 := h.2
  have he := Lib.hid (bring_eq x n hn hn')
  clear h
  go_enter Tryz.func30, Tryz.ntmps30
  go_wp2
  · go_ret
    exact ⟨congrArg Ending.returned (congrArg (Value.int IntKind.i64) (he.out.1 (by assumption))), rfl⟩
  · go_ret
    exact ⟨congrArg Ending.returned (congrArg (Value.int IntKind.i64) (he.out.2 (by assumption))), rfl⟩
theorem bringAt (x n y : Int) (h : Cl.I64 x) (hn : 0 < n) (hn' : n ≤ 1000000) (e : x % n = y) (w : World) :
    Calls Tryz.prog 30 #[.int .i64 x, .int .i64 n] w fun e w' => e = .returned (.int .i64 y) ∧ w = w' := by
  subst e; exact bring x n w h hn hn'
theorem retK1 {fn : Func} {p : Tmp} (h : fn.results = #[.cell p 36]) (tmps : Array Value) (w : World) (g : Nat) (c : Co) (hp : tmps.getD p undef = .pointer (some ⟨g, 0, none⟩)) (hg : w.heap[g]? = some (.cells #[.int .i64 c.id, .string c.nm, .int .i64 c.k, .bool c.u, .bool c.d.u, .int .i64 c.d.n, .string c.d.s] 36 (0, 0))) :
    (results fn tmps).run Tryz.prog w = .ok (kov c) w :=
  results_cell_row h tmps w g 36 _ (0, 0) _ hp hg Tryz.underlying36 rfl col_info
/-- What the column's variables hold once its type and its default stand. -/
structure CI (w : World) (a b c d e k : Int) (u : Bool) (x : Cl.C) (W : World) : Prop where
  arr : Blk W w.heap.size 87 [.int .i64 a, .int .i64 b, .int .i64 c, .int .i64 d, .int .i64 e]
  out : Blk W (w.heap.size + 1) 36 [.int .i64 0, .string ⟨#[]⟩, .int .i64 0, .bool false, .bool false, .int .i64 0, .string ⟨#[]⟩]
  ty : Blk W (w.heap.size + 2) 32 [.int .i64 k, .bool u]
  d : CV W (w.heap.size + 4) x
  b : Below w.heap.size w W
structure CI0 (w : World) (a b c d e k : Int) (u : Bool) (W : World) : Prop where
  arr : Blk W w.heap.size 87 [.int .i64 a, .int .i64 b, .int .i64 c, .int .i64 d, .int .i64 e]
  out : Blk W (w.heap.size + 1) 36 [.int .i64 0, .string ⟨#[]⟩, .int .i64 0, .bool false, .bool false, .int .i64 0, .string ⟨#[]⟩]
  ty : Blk W (w.heap.size + 2) 32 [.int .i64 k, .bool u]
  b : Below w.heap.size w W
theorem CI0.start_size (w : World) (a b c d e k : Int) (u : Bool) : (((w.alloc (.cells #[.int .i64 a, .int .i64 b, .int .i64 c, .int .i64 d, .int .i64 e] 87)).alloc (.cells #[.int .i64 0, .string ⟨#[]⟩, .int .i64 0, .bool false, .bool false, .int .i64 0, .string ⟨#[]⟩] 36)).alloc (.cells #[.int .i64 k, .bool u] 32)).heap.size = w.heap.size + 1 + 1 + 1 := by simp
theorem CI0.start (w : World) (a b c d e k : Int) (u : Bool) : CI0 w a b c d e k u (((w.alloc (.cells #[.int .i64 a, .int .i64 b, .int .i64 c, .int .i64 d, .int .i64 e] 87)).alloc (.cells #[.int .i64 0, .string ⟨#[]⟩, .int .i64 0, .bool false, .bool false, .int .i64 0, .string ⟨#[]⟩] 36)).alloc (.cells #[.int .i64 k, .bool u] 32)) := by
  refine ⟨?_, ?_, ?_, up_box (up_box (box_new _ _) _) _⟩
  · exact ((Blk.new w 87 _).later (box_new _ _)).later (box_new _ _)
  · have := (Blk.new (w.alloc (.cells #[.int .i64 a, .int .i64 b, .int .i64 c, .int .i64 d, .int .i64 e] 87)) 36 #[.int .i64 0, .string ⟨#[]⟩, .int .i64 0, .bool false, .bool false, .int .i64 0, .string ⟨#[]⟩]).later (box_new _ (.cells #[.int .i64 k, .bool u] 32))
    simpa using this
  · have := Blk.new ((w.alloc (.cells #[.int .i64 a, .int .i64 b, .int .i64 c, .int .i64 d, .int .i64 e] 87)).alloc (.cells #[.int .i64 0, .string ⟨#[]⟩, .int .i64 0, .bool false, .bool false, .int .i64 0, .string ⟨#[]⟩] 36)) 32 #[.int .i64 k, .bool u]
    simpa using this
theorem CI0.later {w W W' : World} {a b c d e k : Int} {u : Bool} (h : CI0 w a b c d e k u W) (hb : Below W.heap.size W W') : CI0 w a b c d e k u W' := ⟨h.arr.later hb, h.out.later hb, h.ty.later hb, up h.b hb⟩
theorem CI0.put {w W : World} {a b c d e k : Int} {u : Bool} (h : CI0 w a b c d e k u W) (x y z : Value) : CI0 w a b c d e k u (((W.setCell ⟨w.heap.size + 4, 0, none⟩ x).setCell ⟨w.heap.size + 4, 1, none⟩ y).setCell ⟨w.heap.size + 4, 2, none⟩ z) :=
  ⟨((h.arr.far (by simp) _).far (by simp) _).far (by simp) _, ((h.out.far (by simp) _).far (by simp) _).far (by simp) _, ((h.ty.far (by simp) _).far (by simp) _).far (by simp) _, ((h.b.setCell (by simp) _).setCell (by simp) _).setCell (by simp) _⟩
theorem CV.newAt (W : World) (o : Obj) (g : Nat) (h : W.heap.size + 1 = g) (u : Bool) (n : Int) (s : ByteArray) : CV ((W.alloc o).alloc (.cells #[.bool u, .int .i64 n, .string s] 34)) g ⟨u, n, s⟩ := by
  have := CV.new (W.alloc o) u n s
  rw [← h]; simpa using this
theorem below7b {W w : World} {g : Nat} (hg : W.heap.size ≤ g) (h : Below W.heap.size W w) (c : Co) : Below W.heap.size W (((((((w.setCell ⟨g, 0, none⟩ (.int .i64 c.id)).setCell ⟨g, 1, none⟩ (.string c.nm)).setCell ⟨g, 2, none⟩ (.int .i64 c.k)).setCell ⟨g, 3, none⟩ (.bool c.u)).setCell ⟨g, 4, none⟩ (.bool c.d.u)).setCell ⟨g, 5, none⟩ (.int .i64 c.d.n)).setCell ⟨g, 6, none⟩ (.string c.d.s)) :=
  ((((((h.setCell hg _).setCell hg _).setCell hg _).setCell hg _).setCell hg _).setCell hg _).setCell hg _
/-- What a region may do that writes one column of a variable, and makes memory. -/
structure LtC (B g : Nat) (ini fin : List Value) (w w' : World) : Prop where
  t : Touch (fun k => k = g) w w'
  b : Below B w w'
  f : Blk w g 36 fin → Blk w' g 36 fin
  i : (Blk w g 36 ini ∨ Blk w g 36 fin) → (Blk w' g 36 ini ∨ Blk w' g 36 fin)
theorem LtC.refl (B g : Nat) (ini fin : List Value) (w : World) : LtC B g ini fin w w := ⟨Touch.refl _ _, Below.refl _ _, id, id⟩
theorem LtC.trans (B g : Nat) (ini fin : List Value) (a b c : World) (h : LtC B g ini fin a b) (k : LtC B g ini fin b c) : LtC B g ini fin a c :=
  ⟨h.t.trans k.t (fun _ h => .inl h), h.b.trans k.b, fun x => k.f (h.f x), fun x => k.i (h.i x)⟩
theorem LtC.grow {B g : Nat} {ini fin : List Value} {w w' : World} (hB : B ≤ w.heap.size) (hb : Below w.heap.size w w') : LtC B g ini fin w w' :=
  ⟨Touch.of_below hb, hb.mono hB, fun h => h.later hb, fun h => h.imp (fun h => h.later hb) (fun h => h.later hb)⟩
theorem LtC.store (B g : Nat) (w : World) (n0 n2 n5 : Int) (s1 s6 : ByteArray) (b3 b4 : Bool) (hB : B ≤ g) (hX : Blk w g 36 [.int .i64 0, .string ⟨#[]⟩, .int .i64 0, .bool false, .bool false, .int .i64 0, .string ⟨#[]⟩] ∨ Blk w g 36 [.int .i64 n0, .string s1, .int .i64 n2, .bool b3, .bool b4, .int .i64 n5, .string s6]) :
    LtC B g [.int .i64 0, .string ⟨#[]⟩, .int .i64 0, .bool false, .bool false, .int .i64 0, .string ⟨#[]⟩] [.int .i64 n0, .string s1, .int .i64 n2, .bool b3, .bool b4, .int .i64 n5, .string s6] w (((((((w.setCell ⟨g, 0, none⟩ (.int .i64 n0)).setCell ⟨g, 1, none⟩ (.string s1)).setCell ⟨g, 2, none⟩ (.int .i64 n2)).setCell ⟨g, 3, none⟩ (.bool b3)).setCell ⟨g, 4, none⟩ (.bool b4)).setCell ⟨g, 5, none⟩ (.int .i64 n5)).setCell ⟨g, 6, none⟩ (.string s6)) ∧ Blk (((((((w.setCell ⟨g, 0, none⟩ (.int .i64 n0)).setCell ⟨g, 1, none⟩ (.string s1)).setCell ⟨g, 2, none⟩ (.int .i64 n2)).setCell ⟨g, 3, none⟩ (.bool b3)).setCell ⟨g, 4, none⟩ (.bool b4)).setCell ⟨g, 5, none⟩ (.int .i64 n5)).setCell ⟨g, 6, none⟩ (.string s6)) g 36 [.int .i64 n0, .string s1, .int .i64 n2, .bool b3, .bool b4, .int .i64 n5, .string s6] := by
  have hp : Blk (((((((w.setCell ⟨g, 0, none⟩ (.int .i64 n0)).setCell ⟨g, 1, none⟩ (.string s1)).setCell ⟨g, 2, none⟩ (.int .i64 n2)).setCell ⟨g, 3, none⟩ (.bool b3)).setCell ⟨g, 4, none⟩ (.bool b4)).setCell ⟨g, 5, none⟩ (.int .i64 n5)).setCell ⟨g, 6, none⟩ (.string s6)) g 36 [.int .i64 n0, .string s1, .int .i64 n2, .bool b3, .bool b4, .int .i64 n5, .string s6] := by
    rcases hX with h | h
    · exact put7 h ⟨n0, s1, n2, b3, ⟨b4, n5, s6⟩⟩
    · exact put7 h ⟨n0, s1, n2, b3, ⟨b4, n5, s6⟩⟩
  have HP := Lib.hid hp
  clear hp
  refine ⟨⟨?_, ?_, fun _ => HP.out, fun _ => .inr HP.out⟩, HP.out⟩
  · have hS : (fun k => k = g) g := rfl
    refine Touch.setCell ?_ hS _
    refine Touch.setCell ?_ hS _
    refine Touch.setCell ?_ hS _
    refine Touch.setCell ?_ hS _
    refine Touch.setCell ?_ hS _
    refine Touch.setCell ?_ hS _
    refine Touch.setCell ?_ hS _
    exact Touch.refl _ _
  · exact (((((((Below.refl _ _).setCell hB _).setCell hB _).setCell hB _).setCell hB _).setCell hB _).setCell hB _).setCell hB _
theorem store_col (g : Nat) (w : World) (n0 n2 n5 : Int) (s1 s6 : ByteArray) (b3 b4 : Bool) (hX : Blk w g 36 [.int .i64 0, .string ⟨#[]⟩, .int .i64 0, .bool false, .bool false, .int .i64 0, .string ⟨#[]⟩] ∨ Blk w g 36 [.int .i64 n0, .string s1, .int .i64 n2, .bool b3, .bool b4, .int .i64 n5, .string s6]) :
    (Instr.storeAt 36 (.pointer (some ⟨g, 0, none⟩)) (.agg #[.int .i64 n0, .string s1, .int .i64 n2, .bool b3, .bool b4, .int .i64 n5, .string s6])).run Tryz.prog w = .ok () (((((((w.setCell ⟨g, 0, none⟩ (.int .i64 n0)).setCell ⟨g, 1, none⟩ (.string s1)).setCell ⟨g, 2, none⟩ (.int .i64 n2)).setCell ⟨g, 3, none⟩ (.bool b3)).setCell ⟨g, 4, none⟩ (.bool b4)).setCell ⟨g, 5, none⟩ (.int .i64 n5)).setCell ⟨g, 6, none⟩ (.string s6)) := by
  have ht : w.there g 0 (#[.int .i64 n0, .string s1, .int .i64 n2, .bool b3, .bool b4, .int .i64 n5, .string s6] : Array Value).size := fun j hj => by
    simp only [Nat.zero_add]
    have hj : j < 7 := hj
    rcases hX with h | h
    · exact ⟨by rw [h.cell j, List.getElem?_eq_getElem (by simpa using hj)]; rfl, h.frozen j⟩
    · exact ⟨by rw [h.cell j, List.getElem?_eq_getElem (by simpa using hj)]; rfl, h.frozen j⟩
  have := run_storeAt_mid (P := Tryz.prog) w g 0 36 #[.int .i64 n0, .string s1, .int .i64 n2, .bool b3, .bool b4, .int .i64 n5, .string s6] ht col_info (by first | kernel_rfl | simp [Value.oneCell'])
  exact this
/-- The texts that names begin with. -/
def NmAt (w : World) (g : Nat) (z : Nat) (mb : ByteArray) : Prop := w.cell? ⟨g, z, none⟩ = some (.string mb)
def JC (g G : Nat) (fin : List Value) (id q c e k cn : Int) (z i : Nat) (u cu : Bool) (cs mb x : ByteArray) (j : Nat) (v : Value) (w : World) : Prop := match j with
  | 0 => v = .int .i64 id
  | 1 => v = .int .i64 (id + 1)
  | 2 => v = .pointer (some ⟨G, 4, none⟩)
  | 3 => v = .int .i64 e
  | 4 => v = .int .i64 q
  | 5 => v = .int .i64 (id + 1 + q)
  | 6 => ∃ g5, v = .slice (some ⟨g5, 0, none⟩) 5 5 ∧ NmAt w g5 z mb ∧ g5 ≠ g
  | 7 => v = .pointer (some ⟨G, 2, none⟩)
  | 8 => v = .int .i64 c
  | 9 => v = .int .i64 (z : Nat)
  | 10 => ∃ g5, v = .pointer (some ⟨g5, z, none⟩) ∧ NmAt w g5 z mb ∧ g5 ≠ g
  | 11 => v = .string mb
  | 12 => v = .string (mb ++ ⟨#[95]⟩)
  | 13 => v = .int .i64 (i : Nat)
  | 14 => v = .int .i64 (i : Nat)
  | 15 => v = .int .i64 ((i : Int) + 1)
  | 16 => v = .string x
  | 17 => v = .string (mb ++ ⟨#[95]⟩ ++ x)
  | 18 => v = .agg #[.int .i64 k, .bool u]
  | 19 => v = .agg #[.bool cu, .int .i64 cn, .string cs]
  | 20 => v = .agg #[.int .i64 (id + 1 + q), .string (mb ++ ⟨#[95]⟩ ++ x), .int .i64 k, .bool u, .bool cu, .int .i64 cn, .string cs]
  | _ => Blk w g 36 fin
theorem JC_later (B g G : Nat) (ini fin : List Value) (id q c e k cn : Int) (z i : Nat) (u cu : Bool) (cs mb x : ByteArray) : ∀ j v w w', JC g G fin id q c e k cn z i u cu cs mb x j v w → LtC B g ini fin w w' → JC g G fin id q c e k cn z i u cu cs mb x j v w' := by
  intro j v w w' h hb
  unfold JC at *
  split <;> simp only at h <;> first
    | exact h
    | exact hb.f h
    | (obtain ⟨g5, h1, h2, h3⟩ := h
       exact ⟨g5, h1, (hb.t.cell (cell_lt h2) h3).trans h2, h3⟩)
theorem nm_at (w : World) (z : Nat) (hz : z < 5) (mb : ByteArray) (h : Sc.mbase (z : Nat) = mb) : NmAt (w.alloc (.cells #[.string ⟨#[97]⟩, .string ⟨#[105, 100]⟩, .string ⟨#[110, 95, 49]⟩, .string ⟨#[120, 57]⟩, .string ⟨#[118, 97, 108, 117, 101]⟩] 9)) w.heap.size z mb := by
  subst h
  have hv := Blk.new w 9 #[.string ⟨#[97]⟩, .string ⟨#[105, 100]⟩, .string ⟨#[110, 95, 49]⟩, .string ⟨#[120, 57]⟩, .string ⟨#[118, 97, 108, 117, 101]⟩]
  unfold NmAt
  rw [hv.cell z]
  rcases (show z = 0 ∨ z = 1 ∨ z = 2 ∨ z = 3 ∨ z = 4 by omega) with rfl | rfl | rfl | rfl | rfl <;> rfl
theorem slice_letter (i : Nat) (hi : i < 16) (x : ByteArray) (hx : Sc.letters.extract i (i + 1) = x) (w : World) : (Instr.slice 9 (.string ⟨#[97, 98, 99, 100, 101, 102, 103, 104, 105, 106, 107, 108, 109, 110, 111, 112]⟩) (some (.int .i64 (i : Nat))) (some (.int .i64 ((i : Int) + 1))) none).run Tryz.prog w = .ok (.string x) w := by
  rw [run_slice_string_if w 9 _ .i64 .i64 _ _ Tryz.underlying9, if_pos (by simp [ByteArray.size]; omega), if_pos (by omega)]
  subst hx
  rfl

set_option maxHeartbeats 8000000 in
theorem lCol (a b c d e id : Int) (i : Nat) (w : World) (ha : Cl.I64 a) (hb : Cl.I64 b) (hc : Cl.I64 c) (hd : Cl.I64 d) (he : Cl.I64 e) (h0 : 0 ≤ id) (h1 : id ≤ 1000000) (hi : i < 16) :
    Calls Tryz.prog 59 #[.agg #[.int .i64 a, .int .i64 b, .int .i64 c, .int .i64 d, .int .i64 e], .int .i64 id, .int .i64 (i : Nat)] w fun x w' => x = .returned (kov (Sc.mcol a b c d e id i)) ∧ Below w.heap.size w w' := by
  obtain ⟨k, hk⟩ : ∃ k, a % 5 = k := ⟨_, rfl⟩
  obtain ⟨n, hn⟩ : ∃ n, d % 5 = n := ⟨_, rfl⟩
  obtain ⟨z, hz⟩ : ∃ z, c % 5 = z := ⟨_, rfl⟩
  obtain ⟨p, hp⟩ : ∃ p, b % 3 = p := ⟨_, rfl⟩
  obtain ⟨q, hq⟩ : ∃ q, e % 9 = q := ⟨_, rfl⟩
  have HA := Lib.hid (bringAt a 5 k ha (by omega) (by omega) hk)
  have HD := Lib.hid (bringAt d 5 n hd (by omega) (by omega) hn)
  have HC := Lib.hid (bringAt c 5 z hc (by omega) (by omega) hz)
  have HP := Lib.hid (bringAt b 3 p hb (by omega) (by omega) hp)
  have HQ := Lib.hid (bringAt e 9 q he (by omega) (by omega) hq)
  have hk0 : 0 ≤ k := by omega
  have hk1 : k < 5 := by omega
  have hq0 : 0 ≤ q := by omega
  have hq1 : q < 9 := by omega
  have hkk : k = 0 ∨ k = 1 ∨ k = 2 ∨ k = 3 ∨ k = 4 := by omega
  have hnn : n = 0 ∨ n = 1 ∨ n = 2 ∨ n = 3 ∨ n = 4 := by omega
  have hzz : z = 0 ∨ z = 1 ∨ z = 2 ∨ z = 3 ∨ z = 4 := by omega
  obtain ⟨u, hu⟩ : ∃ u : Bool, (p == 0) = u := ⟨_, rfl⟩
  have EQ : Sc.mcol a b c d e id i = ⟨id + 1 + q, Sc.mname z i, 1 + k, u, Sc.mcell (1 + k) n u⟩ := by
    unfold Sc.mcol
    rw [hk, hn, hz, hp, hq, ← hu]
    rfl
  rw [EQ]
  obtain ⟨⟨cu, cn, cs⟩, hm⟩ : ∃ c, Sc.mcell (1 + k) n u = c := ⟨_, rfl⟩
  rw [hm]
  have HM := Lib.hid hm
  clear hm
  clear EQ hk hn hz hp hq ha hb hc hd he
  obtain ⟨x, hx⟩ : ∃ x, Sc.letters.extract i (i + 1) = x := ⟨_, rfl⟩
  have hxs : x.size = 1 := by rw [← hx]; exact Sc.letter_size i hi
  have HSL := Lib.hid (slice_letter i hi x hx)
  have HNM := Lib.hid (show Sc.mname z i = (Sc.mbase z ++ ⟨#[95]⟩) ++ x by unfold Sc.mname; rw [hx])
  clear hx
  have hi0 : (0 : Int) ≤ i := by omega
  have hi1 : (i : Int) < 16 := by omega
  have HKK := Lib.hid hkk
  have HNN := Lib.hid hnn
  have HZZ := Lib.hid hzz
  have HU := Lib.hid hu
  have HXS := Lib.hid hxs
  clear hkk hnn hzz hu hxs
  go_enter Tryz.func59, Tryz.ntmps59
  go_wp2_with fail
  ((with_reducible refine (HA.out _).mono ?_); rintro e1 w1 ⟨rfl, rfl⟩)
  go_wp2_with fail
  ((with_reducible refine (HP.out _).mono ?_); rintro e1 w1 ⟨rfl, rfl⟩)
  go_wp2_with fail
  ((with_reducible refine (HD.out _).mono ?_); rintro e1 w1 ⟨rfl, rfl⟩)
  go_upto_region 4 with fail
  have HCI := Lib.hid (CI0.start w a b c d e (1 + k) (p == 0))
  have HS := Lib.hid (CI0.start_size w a b c d e (1 + k) (p == 0))
  generalize (((w.alloc (.cells #[.int .i64 a, .int .i64 b, .int .i64 c, .int .i64 d, .int .i64 e] 87)).alloc (.cells #[.int .i64 0, .string ⟨#[]⟩, .int .i64 0, .bool false, .bool false, .int .i64 0, .string ⟨#[]⟩] 36)).alloc (.cells #[.int .i64 (1 + k), .bool (p == 0)] 32)) = W0 at *
  go_cut [10] (fun s10 wx => s10 = .pointer (some ⟨w.heap.size + 1 + 1 + 1 + 1, 0, none⟩) ∧ Hid (CI0 w a b c d e (1 + k) (p == 0) wx ∧ CV wx (w.heap.size + 4) (Sc.mcell0 n)))
  case first =>
    have hnn := HNN.out
    clear HSL
    rcases hnn with rfl | rfl | rfl | rfl | rfl
    all_goals
      go_wp2_with fail
      go_meet
      exact ⟨by rw [HS.out], Lib.hid ⟨HCI.out.later (up_box (box_new _ _) _), CV.newAt W0 _ _ (by rw [HS.out]) _ _ _⟩⟩
  case rest =>
  obtain ⟨rfl, HC1⟩ := hcut
  have HC2 := HC1.out
  rw [HU.out] at HC2
  have HI := Lib.hid HC2.1
  have HV := Lib.hid HC2.2
  clear HC2 HC1 HCI HS HA HD HP
  go_upto_block 0 with fail
  go_cut [] (fun wx => Hid (CI0 w a b c d e (1 + k) u wx ∧ CV wx (w.heap.size + 4) (Sc.mcell (1 + k) n false)))
  case first =>
    have hnn := HNN.out
    have hkk := HKK.out
    clear HSL
    rcases hkk with rfl | rfl | rfl | rfl | rfl
    · skip
      obtain ⟨x0, x1, x2⟩ := HV.out.lie
      obtain ⟨y0, y1, y2⟩ := HV.out.free
      rcases hnn with rfl | rfl | rfl | rfl | rfl
      all_goals
        simp only [Sc.mcell0, Sc.mnum] at x0 x1 x2
        go_wp2_with fail
        go_meet
        first
          | exact Lib.hid ⟨HI.out, HV.out⟩
          | exact Lib.hid ⟨HI.out.put _ _ _, CV.put HV.out _ _ _⟩
    · skip
      obtain ⟨x0, x1, x2⟩ := HV.out.lie
      obtain ⟨y0, y1, y2⟩ := HV.out.free
      rcases hnn with rfl | rfl | rfl | rfl | rfl
      all_goals
        simp only [Sc.mcell0, Sc.mnum] at x0 x1 x2
        go_wp2_with fail
        go_meet
        first
          | exact Lib.hid ⟨HI.out, HV.out⟩
          | exact Lib.hid ⟨HI.out.put _ _ _, CV.put HV.out _ _ _⟩
    · skip
      obtain ⟨x0, x1, x2⟩ := HV.out.lie
      obtain ⟨y0, y1, y2⟩ := HV.out.free
      rcases hnn with rfl | rfl | rfl | rfl | rfl
      all_goals
        simp only [Sc.mcell0, Sc.mnum] at x0 x1 x2
        go_wp2_with fail
        go_meet
        first
          | exact Lib.hid ⟨HI.out, HV.out⟩
          | exact Lib.hid ⟨HI.out.put _ _ _, CV.put HV.out _ _ _⟩
    · skip
      obtain ⟨W1, HW1⟩ : ∃ W1, wc.alloc (.cells #[.string ⟨#[]⟩, .string ⟨#[97, 32, 98]⟩, .string ⟨#[34, 10]⟩, .string ⟨#[195, 164]⟩, .string ⟨#[110, 117, 108, 108]⟩] 9) = W1 := ⟨_, rfl⟩
      have HV1 := HV.out.later (box_new wc (.cells #[.string ⟨#[]⟩, .string ⟨#[97, 32, 98]⟩, .string ⟨#[34, 10]⟩, .string ⟨#[195, 164]⟩, .string ⟨#[110, 117, 108, 108]⟩] 9))
      have HI1 := HI.out.later (box_new wc (.cells #[.string ⟨#[]⟩, .string ⟨#[97, 32, 98]⟩, .string ⟨#[34, 10]⟩, .string ⟨#[195, 164]⟩, .string ⟨#[110, 117, 108, 108]⟩] 9))
      have HL1 := Blk.new wc 9 #[.string ⟨#[]⟩, .string ⟨#[97, 32, 98]⟩, .string ⟨#[34, 10]⟩, .string ⟨#[195, 164]⟩, .string ⟨#[110, 117, 108, 108]⟩]
      rw [HW1] at HV1 HI1 HL1
      obtain ⟨x0, x1, x2⟩ := HV1.lie
      obtain ⟨y0, y1, y2⟩ := HV1.free
      have l0 := HL1.cell 0
      have l1 := HL1.cell 1
      have l2 := HL1.cell 2
      have l3 := HL1.cell 3
      have l4 := HL1.cell 4
      simp only [List.getElem?_cons_succ, List.getElem?_cons_zero] at l0 l1 l2 l3 l4
      have HV1 := Lib.hid HV1
      have HI1 := Lib.hid HI1
      clear HL1
      rcases hnn with rfl | rfl | rfl | rfl | rfl
      all_goals
        simp only [Sc.mcell0, Sc.mnum] at x0 x1 x2
        go_wp2_with fail
        go_meet
        exact Lib.hid ⟨HI1.out.put _ _ _, CV.put HV1.out _ _ _⟩
    · skip
      obtain ⟨W1, HW1⟩ : ∃ W1, wc.alloc (.cells #[.string ⟨#[]⟩, .string ⟨#[0, 255]⟩, .string ⟨#[120]⟩, .string ⟨#[32]⟩, .string ⟨#[10]⟩] 9) = W1 := ⟨_, rfl⟩
      have HV1 := HV.out.later (box_new wc (.cells #[.string ⟨#[]⟩, .string ⟨#[0, 255]⟩, .string ⟨#[120]⟩, .string ⟨#[32]⟩, .string ⟨#[10]⟩] 9))
      have HI1 := HI.out.later (box_new wc (.cells #[.string ⟨#[]⟩, .string ⟨#[0, 255]⟩, .string ⟨#[120]⟩, .string ⟨#[32]⟩, .string ⟨#[10]⟩] 9))
      have HL1 := Blk.new wc 9 #[.string ⟨#[]⟩, .string ⟨#[0, 255]⟩, .string ⟨#[120]⟩, .string ⟨#[32]⟩, .string ⟨#[10]⟩]
      rw [HW1] at HV1 HI1 HL1
      obtain ⟨x0, x1, x2⟩ := HV1.lie
      obtain ⟨y0, y1, y2⟩ := HV1.free
      have l0 := HL1.cell 0
      have l1 := HL1.cell 1
      have l2 := HL1.cell 2
      have l3 := HL1.cell 3
      have l4 := HL1.cell 4
      simp only [List.getElem?_cons_succ, List.getElem?_cons_zero] at l0 l1 l2 l3 l4
      have HV1 := Lib.hid HV1
      have HI1 := Lib.hid HI1
      clear HL1
      rcases hnn with rfl | rfl | rfl | rfl | rfl
      all_goals
        simp only [Sc.mcell0, Sc.mnum] at x0 x1 x2
        go_wp2_with fail
        go_meet
        exact Lib.hid ⟨HI1.out.put _ _ _, CV.put HV1.out _ _ _⟩
  case rest =>
  have HI2 := Lib.hid hcut.out.1
  have HV2 := Lib.hid hcut.out.2
  clear hcut HI HV
  obtain ⟨bb, hbb⟩ : ∃ bb, (decide (n = 0) && u) = bb := ⟨_, rfl⟩
  have HBB := Lib.hid hbb
  clear hbb
  go_upto_region 13 with fail
  go_cut [68] (fun s68 wx => s68 = .bool bb ∧ wx = wc)
  case first =>
    have hnn := HNN.out
    have g1 := HI2.out.ty.cell 1
    simp only [List.getElem?_cons_succ, List.getElem?_cons_zero] at g1
    clear HSL
    cases u
    all_goals rcases hnn with rfl | rfl | rfl | rfl | rfl
    all_goals
      go_wp2_with fail
      go_meet
      exact ⟨by rw [← HBB.out]; rfl, rfl⟩
  case rest =>
  obtain ⟨rfl, rfl⟩ := hcut
  go_upto_if 68 with fail
  go_cut [] (fun wx => Hid (CI0 w a b c d e (1 + k) u wx ∧ CV wx (w.heap.size + 4) (Sc.mcell (1 + k) n u)))
  case first =>
    obtain ⟨x0, x1, x2⟩ := HV2.out.lie
    obtain ⟨y0, y1, y2⟩ := HV2.out.free
    clear HSL
    cases bb
    · go_wp2_with fail
      go_meet
      exact Lib.hid ⟨HI2.out, by rw [Sc.mcell_no HBB.out]; exact HV2.out⟩
    · go_wp2_with fail
      go_meet
      exact Lib.hid ⟨HI2.out.put _ _ _, by rw [Sc.mcell_yes HBB.out]; exact CV.put HV2.out _ _ _⟩
  case rest =>
  have HI3 := Lib.hid hcut.out.1
  have HV3 := Lib.hid hcut.out.2
  clear hcut HI2 HV2 HBB
  rw [HM.out] at HV3
  have HX3 := Lib.hid HI3.out.out
  obtain ⟨zn, rfl⟩ : ∃ zn : Nat, z = zn := ⟨z.toNat, by have := HZZ.out; omega⟩
  have hzn : zn < 5 := by have := HZZ.out; omega
  obtain ⟨mb, hmb⟩ : ∃ mb, Sc.mbase (zn : Nat) = mb := ⟨_, rfl⟩
  have hms : mb.size ≤ 5 := by rw [← hmb]; exact Sc.mbase_size _
  rw [hmb] at HNM
  have HMB := Lib.hid hmb
  have r2 := HI3.out.arr.cell 2
  have r4 := HI3.out.arr.cell 4
  have g0 := HI3.out.ty.cell 0
  have g1 := HI3.out.ty.cell 1
  obtain ⟨x0, x1, x2⟩ := HV3.out.lie
  simp only [List.getElem?_cons_succ, List.getElem?_cons_zero] at r2 r4 g0 g1
  have hxs := HXS.out
  have HWS := Lib.hid (show w.heap.size ≤ wc.heap.size from HI3.out.b.size)
  clear HM HXS HU HKK HNN HV3 hmb HZZ
  go_upto_region 15 with fail
  obtain ⟨fin, hfin⟩ : ∃ fin, [Value.int .i64 (id + 1 + q), .string (mb ++ ⟨#[95]⟩ ++ x), .int .i64 (1 + k), .bool u, .bool cu, .int .i64 cn, .string cs] = fin := ⟨_, rfl⟩
  have HFIN := Lib.hid hfin
  clear hfin
  refine region_growS_merge (LtC w.heap.size (w.heap.size + 1) [.int .i64 0, .string ⟨#[]⟩, .int .i64 0, .bool false, .bool false, .int .i64 0, .string ⟨#[]⟩] fin) (LtC.refl _ _ _ _) (LtC.trans _ _ _ _) (JC (w.heap.size + 1) w.heap.size fin id q c e (1 + k) cn zn i u cu cs mb x) [70, 71, 72, 73, 74, 75, 76, 77, 78, 79, 80, 81, 82, 83, 84, 85, 86, 87, 88, 89, 90] (fun ts w' => Blk w' (w.heap.size + 1) 36 fin ∧ Below w.heap.size wc w') (by kernel_rfl) (by kernel_rfl) (by kernel_rfl) (JC_later _ _ _ _ _ _ _ _ _ _ _ _ _ _ _ _ _ _) ?_ ?_ ?_
  · intro QQ j o a w1 ho hb hs hold hdep
    have hj : j < 22 := (Array.getElem?_eq_some_iff.1 ho).1
    have hB1 : w.heap.size ≤ w1.heap.size := Nat.le_trans HWS.out hb.t.size
    have kr2 := (hb.t.cell (p := ⟨w.heap.size, 2, none⟩) (cell_lt r2) (by simp)).trans r2
    have kr4 := (hb.t.cell (p := ⟨w.heap.size, 4, none⟩) (cell_lt r4) (by simp)).trans r4
    have kg0 := (hb.t.cell (p := ⟨w.heap.size + 2, 0, none⟩) (cell_lt g0) (by simp)).trans g0
    have kg1 := (hb.t.cell (p := ⟨w.heap.size + 2, 1, none⟩) (cell_lt g1) (by simp)).trans g1
    have kx0 := (hb.t.cell (p := ⟨w.heap.size + 4, 0, none⟩) (cell_lt x0) (by simp)).trans x0
    have kx1 := (hb.t.cell (p := ⟨w.heap.size + 4, 1, none⟩) (cell_lt x1) (by simp)).trans x1
    have kx2 := (hb.t.cell (p := ⟨w.heap.size + 4, 2, none⟩) (cell_lt x2) (by simp)).trans x2
    have hX := Lib.hid (hb.i (.inl HX3.out))
    clear r2 r4 g0 g1 x0 x1 x2
    have e1 : a.eval (.tmp 1) = .int .i64 id := by
      show a.tmps.getD 1 undef = _
      rw [Array.getD_eq_getD_getElem?, hold 1 (by decide +kernel)]; rfl
    have e2 : a.eval (.tmp 2) = .int .i64 (i : Nat) := by
      show a.tmps.getD 2 undef = _
      rw [Array.getD_eq_getD_getElem?, hold 2 (by decide +kernel)]; rfl
    have e3 : a.eval (.tmp 3) = .pointer (some ⟨w.heap.size, 0, none⟩) := by
      show a.tmps.getD 3 undef = _
      rw [Array.getD_eq_getD_getElem?, hold 3 (by decide +kernel)]; rfl
    have e6 : a.eval (.tmp 6) = .pointer (some ⟨w.heap.size + 1, 0, none⟩) := by
      show a.tmps.getD 6 undef = _
      rw [Array.getD_eq_getD_getElem?, hold 6 (by decide +kernel)]; rfl
    have e8 : a.eval (.tmp 8) = .pointer (some ⟨w.heap.size + 1 + 1, 0, none⟩) := by
      show a.tmps.getD 8 undef = _
      rw [Array.getD_eq_getD_getElem?, hold 8 (by decide +kernel)]; rfl
    have e10 : a.eval (.tmp 10) = .pointer (some ⟨w.heap.size + 1 + 1 + 1 + 1, 0, none⟩) := by
      show a.tmps.getD 10 undef = _
      rw [Array.getD_eq_getD_getElem?, hold 10 (by decide +kernel)]; rfl
    have ec : ∀ v, a.eval (.const v) = v := fun _ => rfl
    have hw1 : IntKind.i64.wrap (id + 1) = id + 1 := IntWalk.i64_in _ ⟨by omega, by omega⟩
    have hw2 : IntKind.i64.wrap (id + 1 + q) = id + 1 + q := IntWalk.i64_in _ ⟨by omega, by omega⟩
    have hw3 : IntKind.i64.wrap ((i : Int) + 1) = (i : Int) + 1 := IntWalk.i64_in _ ⟨by omega, by omega⟩
    clear hs
    clear hold
    rcases (show j = 0 ∨ j = 1 ∨ j = 2 ∨ j = 3 ∨ j = 4 ∨ j = 5 ∨ j = 6 ∨ j = 7 ∨ j = 8 ∨ j = 9 ∨ j = 10 ∨ j = 11 ∨ j = 12 ∨ j = 13 ∨ j = 14 ∨ j = 15 ∨ j = 16 ∨ j = 17 ∨ j = 18 ∨ j = 19 ∨ j = 20 ∨ j = 21 by omega) with rfl | rfl | rfl | rfl | rfl | rfl | rfl | rfl | rfl | rfl | rfl | rfl | rfl | rfl | rfl | rfl | rfl | rfl | rfl | rfl | rfl | rfl
    · have ho2 := ho; simp only [List.getElem?_toArray, List.getElem?_cons_succ, List.getElem?_cons_zero, Option.some.injEq] at ho2; subst ho2
      refine growS_val (a := a) (w := w1) (.int .i64 id) w1 ho rfl ?_ (LtC.refl _ _ _ _ _) rfl
      unfold execOp
      simp only [e1, ec]
      rfl
    · have ho2 := ho; simp only [List.getElem?_toArray, List.getElem?_cons_succ, List.getElem?_cons_zero, Option.some.injEq] at ho2; subst ho2
      have d0 : a.eval (.tmp 70) = .int .i64 id := hdep ⟨0, .data⟩ (by simp) rfl
      refine growS_val (a := a) (w := w1) (.int .i64 (id + 1)) w1 ho rfl ?_ (LtC.refl _ _ _ _ _) rfl
      unfold execOp
      simp only [d0, ec]
      first | (go_simp; done) | (go_simp; exact hw1)
    · have ho2 := ho; simp only [List.getElem?_toArray, List.getElem?_cons_succ, List.getElem?_cons_zero, Option.some.injEq] at ho2; subst ho2
      refine growS_val (a := a) (w := w1) (.pointer (some ⟨w.heap.size, 4, none⟩)) w1 ho rfl ?_ (LtC.refl _ _ _ _ _) rfl
      unfold execOp
      simp only [e3, ec]
      go_simp
    · have ho2 := ho; simp only [List.getElem?_toArray, List.getElem?_cons_succ, List.getElem?_cons_zero, Option.some.injEq] at ho2; subst ho2
      have d0 : a.eval (.tmp 72) = .pointer (some ⟨w.heap.size, 4, none⟩) := hdep ⟨2, .data⟩ (by simp) rfl
      refine growS_val (a := a) (w := w1) (.int .i64 e) w1 ho rfl ?_ (LtC.refl _ _ _ _ _) rfl
      unfold execOp
      simp only [d0, ec]
      go_simp
    · have ho2 := ho; simp only [List.getElem?_toArray, List.getElem?_cons_succ, List.getElem?_cons_zero, Option.some.injEq] at ho2; subst ho2
      have d1 : a.eval (.tmp 73) = .int .i64 e := hdep ⟨3, .data⟩ (by simp) rfl
      refine growS_call (a := a) (w := w1) 30 #[.int .i64 e, .int .i64 9] ho rfl (by unfold execOp resolve; simp only [List.map_toArray, List.map_cons, List.map_nil, d1, ec]; rfl) ((HQ.out w1).mono ?_)
      rintro e1 c1 ⟨rfl, rfl⟩
      exact ⟨_, rfl, rfl, LtC.refl _ _ _ _ _⟩
    · have ho2 := ho; simp only [List.getElem?_toArray, List.getElem?_cons_succ, List.getElem?_cons_zero, Option.some.injEq] at ho2; subst ho2
      have d0 : a.eval (.tmp 71) = .int .i64 (id + 1) := hdep ⟨1, .data⟩ (by simp) rfl
      have d1 : a.eval (.tmp 74) = .int .i64 q := hdep ⟨4, .data⟩ (by simp) rfl
      refine growS_val (a := a) (w := w1) (.int .i64 (id + 1 + q)) w1 ho rfl ?_ (LtC.refl _ _ _ _ _) rfl
      unfold execOp
      simp only [d0, d1, ec]
      first | (go_simp; done) | (go_simp; exact hw2)
    · have ho2 := ho; simp only [List.getElem?_toArray, List.getElem?_cons_succ, List.getElem?_cons_zero, Option.some.injEq] at ho2; subst ho2
      refine growS_val (a := a) (w := w1) (.slice (some ⟨w1.heap.size, 0, none⟩) 5 5) (w1.alloc (.cells #[.string ⟨#[97]⟩, .string ⟨#[105, 100]⟩, .string ⟨#[110, 95, 49]⟩, .string ⟨#[120, 57]⟩, .string ⟨#[118, 97, 108, 117, 101]⟩] 9)) ho rfl ?_ (LtC.grow hB1 (box_new _ _)) ⟨_, rfl, nm_at w1 zn hzn mb HMB.out, by have h9 := hX.out.elim Blk.lt Blk.lt; omega⟩
      unfold execOp
      simp only [List.map_toArray, List.map_cons, List.map_nil, ec]
      generalize a.eval = ev at *
      go_simp
    · have ho2 := ho; simp only [List.getElem?_toArray, List.getElem?_cons_succ, List.getElem?_cons_zero, Option.some.injEq] at ho2; subst ho2
      refine growS_val (a := a) (w := w1) (.pointer (some ⟨w.heap.size, 2, none⟩)) w1 ho rfl ?_ (LtC.refl _ _ _ _ _) rfl
      unfold execOp
      simp only [e3, ec]
      go_simp
    · have ho2 := ho; simp only [List.getElem?_toArray, List.getElem?_cons_succ, List.getElem?_cons_zero, Option.some.injEq] at ho2; subst ho2
      have d0 : a.eval (.tmp 77) = .pointer (some ⟨w.heap.size, 2, none⟩) := hdep ⟨7, .data⟩ (by simp) rfl
      refine growS_val (a := a) (w := w1) (.int .i64 c) w1 ho rfl ?_ (LtC.refl _ _ _ _ _) rfl
      unfold execOp
      simp only [d0, ec]
      go_simp
    · have ho2 := ho; simp only [List.getElem?_toArray, List.getElem?_cons_succ, List.getElem?_cons_zero, Option.some.injEq] at ho2; subst ho2
      have d1 : a.eval (.tmp 78) = .int .i64 c := hdep ⟨8, .data⟩ (by simp) rfl
      refine growS_call (a := a) (w := w1) 30 #[.int .i64 c, .int .i64 5] ho rfl (by unfold execOp resolve; simp only [List.map_toArray, List.map_cons, List.map_nil, d1, ec]; rfl) ((HC.out w1).mono ?_)
      rintro e1 c1 ⟨rfl, rfl⟩
      exact ⟨_, rfl, rfl, LtC.refl _ _ _ _ _⟩
    · have ho2 := ho; simp only [List.getElem?_toArray, List.getElem?_cons_succ, List.getElem?_cons_zero, Option.some.injEq] at ho2; subst ho2
      obtain ⟨g5, d1, hn, hg5⟩ : ∃ g5, a.eval (.tmp 76) = .slice (some ⟨g5, 0, none⟩) 5 5 ∧ NmAt w1 g5 zn mb ∧ g5 ≠ w.heap.size + 1 := hdep ⟨6, .data⟩ (by simp) rfl
      have d2 : a.eval (.tmp 79) = .int .i64 (zn : Nat) := hdep ⟨9, .data⟩ (by simp) rfl
      refine growS_val (a := a) (w := w1) (.pointer (some ⟨g5, zn, none⟩)) w1 ho rfl ?_ (LtC.refl _ _ _ _ _) ⟨g5, rfl, hn, hg5⟩
      unfold NmAt at hn
      unfold execOp
      simp only [d1, d2]
      first | (go_simp; done) | (go_simp; intro h9; omega)
    · have ho2 := ho; simp only [List.getElem?_toArray, List.getElem?_cons_succ, List.getElem?_cons_zero, Option.some.injEq] at ho2; subst ho2
      obtain ⟨g5, d1, hn, hg5⟩ : ∃ g5, a.eval (.tmp 80) = .pointer (some ⟨g5, zn, none⟩) ∧ NmAt w1 g5 zn mb ∧ g5 ≠ w.heap.size + 1 := hdep ⟨10, .data⟩ (by simp) rfl
      refine growS_val (a := a) (w := w1) (.string mb) w1 ho rfl ?_ (LtC.refl _ _ _ _ _) rfl
      unfold NmAt at hn
      unfold execOp
      simp only [d1]
      go_simp
    · have ho2 := ho; simp only [List.getElem?_toArray, List.getElem?_cons_succ, List.getElem?_cons_zero, Option.some.injEq] at ho2; subst ho2
      have d0 : a.eval (.tmp 81) = .string mb := hdep ⟨11, .data⟩ (by simp) rfl
      refine growS_val (a := a) (w := w1) (.string (mb ++ (⟨#[95]⟩ : ByteArray))) w1 ho rfl ?_ (LtC.refl _ _ _ _ _) rfl
      unfold execOp
      simp only [d0, ec]
      first | (go_simp; done) | (go_simp; omega)
    · have ho2 := ho; simp only [List.getElem?_toArray, List.getElem?_cons_succ, List.getElem?_cons_zero, Option.some.injEq] at ho2; subst ho2
      refine growS_val (a := a) (w := w1) (.int .i64 (i : Nat)) w1 ho rfl ?_ (LtC.refl _ _ _ _ _) rfl
      unfold execOp
      simp only [e2, ec]
      rfl
    · have ho2 := ho; simp only [List.getElem?_toArray, List.getElem?_cons_succ, List.getElem?_cons_zero, Option.some.injEq] at ho2; subst ho2
      refine growS_val (a := a) (w := w1) (.int .i64 (i : Nat)) w1 ho rfl ?_ (LtC.refl _ _ _ _ _) rfl
      unfold execOp
      simp only [e2, ec]
      rfl
    · have ho2 := ho; simp only [List.getElem?_toArray, List.getElem?_cons_succ, List.getElem?_cons_zero, Option.some.injEq] at ho2; subst ho2
      have d0 : a.eval (.tmp 84) = .int .i64 (i : Nat) := hdep ⟨14, .data⟩ (by simp) rfl
      refine growS_val (a := a) (w := w1) (.int .i64 ((i : Int) + 1)) w1 ho rfl ?_ (LtC.refl _ _ _ _ _) rfl
      unfold execOp
      simp only [d0, ec]
      first | (go_simp; done) | (go_simp; exact hw3)
    · have ho2 := ho; simp only [List.getElem?_toArray, List.getElem?_cons_succ, List.getElem?_cons_zero, Option.some.injEq] at ho2; subst ho2
      have d0 : a.eval (.tmp 83) = .int .i64 (i : Nat) := hdep ⟨13, .data⟩ (by simp) rfl
      have d1 : a.eval (.tmp 85) = .int .i64 ((i : Int) + 1) := hdep ⟨15, .data⟩ (by simp) rfl
      refine growS_val (a := a) (w := w1) (.string x) w1 ho rfl ?_ (LtC.refl _ _ _ _ _) rfl
      unfold execOp
      simp only [d0, d1, ec, Option.map_some, Option.map_none]
      first | (go_simp; done) | (go_simp; rw [HSL.out]; rfl) | (rw [Sem.run_bind, HSL.out]; rfl) | (have hsl := HSL.out w1; go_simp)
    · have ho2 := ho; simp only [List.getElem?_toArray, List.getElem?_cons_succ, List.getElem?_cons_zero, Option.some.injEq] at ho2; subst ho2
      have d0 : a.eval (.tmp 82) = .string (mb ++ ⟨#[95]⟩) := hdep ⟨12, .data⟩ (by simp) rfl
      have d1 : a.eval (.tmp 86) = .string x := hdep ⟨16, .data⟩ (by simp) rfl
      refine growS_val (a := a) (w := w1) (.string (mb ++ (⟨#[95]⟩ : ByteArray) ++ x)) w1 ho rfl ?_ (LtC.refl _ _ _ _ _) rfl
      unfold execOp
      simp only [d0, d1, ec]
      first | (go_simp; done) | (go_simp; omega)
    · have ho2 := ho; simp only [List.getElem?_toArray, List.getElem?_cons_succ, List.getElem?_cons_zero, Option.some.injEq] at ho2; subst ho2
      refine growS_val (a := a) (w := w1) (.agg #[.int .i64 (1 + k), .bool u]) w1 ho rfl ?_ (LtC.refl _ _ _ _ _) rfl
      unfold execOp
      simp only [e8, ec]
      go_simp
    · have ho2 := ho; simp only [List.getElem?_toArray, List.getElem?_cons_succ, List.getElem?_cons_zero, Option.some.injEq] at ho2; subst ho2
      refine growS_val (a := a) (w := w1) (.agg #[.bool cu, .int .i64 cn, .string cs]) w1 ho rfl ?_ (LtC.refl _ _ _ _ _) rfl
      unfold execOp
      simp only [e10, ec]
      go_simp
    · have ho2 := ho; simp only [List.getElem?_toArray, List.getElem?_cons_succ, List.getElem?_cons_zero, Option.some.injEq] at ho2; subst ho2
      have d0 : a.eval (.tmp 75) = .int .i64 (id + 1 + q) := hdep ⟨5, .data⟩ (by simp) rfl
      have d1 : a.eval (.tmp 87) = .string (mb ++ ⟨#[95]⟩ ++ x) := hdep ⟨17, .data⟩ (by simp) rfl
      have d2 : a.eval (.tmp 88) = .agg #[.int .i64 (1 + k), .bool u] := hdep ⟨18, .data⟩ (by simp) rfl
      have d3 : a.eval (.tmp 89) = .agg #[.bool cu, .int .i64 cn, .string cs] := hdep ⟨19, .data⟩ (by simp) rfl
      refine growS_val (a := a) (w := w1) (.agg #[.int .i64 (id + 1 + q), .string (mb ++ (⟨#[95]⟩ : ByteArray) ++ x), .int .i64 (1 + k), .bool u, .bool cu, .int .i64 cn, .string cs]) w1 ho rfl ?_ (LtC.refl _ _ _ _ _) rfl
      unfold execOp
      simp only [d0, d1, d2, d3, ec, List.map_toArray, List.map_cons, List.map_nil]
      go_simp
    · have ho2 := ho; simp only [List.getElem?_toArray, List.getElem?_cons_succ, List.getElem?_cons_zero, Option.some.injEq] at ho2; subst ho2
      have d1 : a.eval (.tmp 90) = .agg #[.int .i64 (id + 1 + q), .string (mb ++ ⟨#[95]⟩ ++ x), .int .i64 (1 + k), .bool u, .bool cu, .int .i64 cn, .string cs] := hdep ⟨20, .data⟩ (by simp) rfl
      have hfin := HFIN.out
      subst hfin
      have hX7 := hX.out
      obtain ⟨hlt, hput⟩ := LtC.store w.heap.size (w.heap.size + 1) w1 (id + 1 + q) (1 + k) cn (mb ++ ⟨#[95]⟩ ++ x) cs u cu (by omega) hX7
      have HLT := Lib.hid hlt
      have hst := store_col (w.heap.size + 1) w1 (id + 1 + q) (1 + k) cn (mb ++ ⟨#[95]⟩ ++ x) cs u cu hX7
      have HPU := Lib.hid hput
      clear hX7 hlt hput
      refine growS_skip (a := a) (w := w1) (((((((w1.setCell ⟨w.heap.size + 1, 0, none⟩ (.int .i64 (id + 1 + q))).setCell ⟨w.heap.size + 1, 1, none⟩ (.string (mb ++ (⟨#[95]⟩ : ByteArray) ++ x))).setCell ⟨w.heap.size + 1, 2, none⟩ (.int .i64 (1 + k))).setCell ⟨w.heap.size + 1, 3, none⟩ (.bool u)).setCell ⟨w.heap.size + 1, 4, none⟩ (.bool cu)).setCell ⟨w.heap.size + 1, 5, none⟩ (.int .i64 cn)).setCell ⟨w.heap.size + 1, 6, none⟩ (.string cs)) ho rfl rfl ?_ ?_ HPU.out
      · unfold execOp
        simp only [e6, d1]
        rw [Sem.run_bind, hst]
        rfl
      · exact HLT.out
  · intro a w1 hb hj
    exact ⟨hj 21 (by decide), (Below.refl _ _).drew.trans hb.b⟩
  rintro ts w8 ⟨hp8, hb8⟩
  simp only [fill, List.setIfInBounds_toArray, List.set_cons_succ, List.set_cons_zero]
  rw [← HFIN.out] at hp8
  have HP8 := Lib.hid hp8
  have HB8 := Lib.hid (HI3.out.b.trans hb8)
  clear hp8 hb8 HSL HC HQ r2 r4 g0 g1 x0 x1 x2
  go_wp2_with fail
  exact bodyPost_ret (retK1 rfl _ _ (w.heap.size + 1) ⟨id + 1 + q, mb ++ ⟨#[95]⟩ ++ x, 1 + k, u, ⟨cu, cn, cs⟩⟩ rfl HP8.out) rfl ⟨by rw [HNM.out], HB8.out⟩

end Go.Proofs.YtjmphlboickhdaaGreatDoor

/- What the law's made gives, plainly; its text, and what is read of it. -/
namespace Go.Proofs.YtjmphlboickhdaaGreatDoor.Sc
open Cl
set_option linter.unusedVariables false
set_option linter.unusedSimpArgs false
set_option maxRecDepth 100000

/-- A schema that the law made. -/
structure Made (cs : List Co) (ks : List Int) : Prop where
  ok : okC cs = true
  kk : okK cs ks = true
  l16 : cs.length ≤ 16
  ko : ∀ c ∈ cs, KOk c
  sm : ∀ c ∈ cs, c.d.s.size ≤ 4
  id : ∀ c ∈ cs, c.id ≤ 1000
  ns : ∀ c ∈ cs, c.nm.size ≤ 7
theorem Made.l1 {cs : List Co} {ks : List Int} (h : Made cs ks) : 1 ≤ cs.length := (okC_iff.1 h.ok).1.1
theorem Made.ck {cs : List Co} {ks : List Int} (h : Made cs ks) : ck cs ks = 0 := ck_ok h.ok h.kk
theorem mname_size (z : Int) (i : Nat) (h : i < 16) : (mname z i).size ≤ 7 := by
  unfold mname
  rw [ByteArray.size_append, ByteArray.size_append, letter_size i h]
  have := mbase_size z
  show (mbase z).size + 1 + 1 ≤ 7
  omega
theorem made_of {l : List Co} {n : Int} {ks : List Int} (h : MC l n) (h1 : 1 ≤ l.length) (h16 : l.length ≤ 16) (hk : okK l ks = true) : Made l ks := by
  have key : ∀ c ∈ l, ∃ a b c' d e j, j < 16 ∧ 0 ≤ prevId l j ∧ prevId l j ≤ 9 * j ∧ c = mcol a b c' d e (prevId l j) j := fun c hc => by
    obtain ⟨j, hj⟩ := List.getElem?_of_mem hc
    have hjl := (List.getElem?_eq_some_iff.1 hj).1
    obtain ⟨a, b, c', d, e, hh⟩ := h.at_ j c hj
    obtain ⟨p1, p2⟩ := h.prev j (by omega)
    exact ⟨a, b, c', d, e, j, by omega, p1, p2, hh⟩
  refine ⟨h.okC h1 h16, hk, h16, fun c hc => ?_, fun c hc => ?_, fun c hc => ?_, fun c hc => ?_⟩
  all_goals obtain ⟨a, b, c', d, e, j, hj, p1, p2, rfl⟩ := key c hc
  · have hn := mname_size (c' % 5) j hj
    refine ⟨?_, ?_, ?_, mcell_i64 _ _ _, ?_⟩
    · constructor
      · show _ ≤ prevId l j + 1 + e % 9; omega
      · show prevId l j + 1 + e % 9 ≤ _; omega
    · constructor
      · show _ ≤ 1 + a % 5; omega
      · show 1 + a % 5 ≤ _; omega
    · show (mname (c' % 5) j).size ≤ _; omega
    · have := mcell_size a d (decide (b % 3 = 0))
      show (mcell (1 + a % 5) (d % 5) (decide (b % 3 = 0))).s.size ≤ _; omega
  · exact mcell_size a d (decide (b % 3 = 0))
  · show prevId l j + 1 + e % 9 ≤ _; omega
  · exact mname_size (c' % 5) j hj
def one : Co := ⟨1, ⟨#[97]⟩, 1, false, ⟨false, 0, ⟨#[]⟩⟩⟩
theorem made_one : Made [one] [] := by
  have e : ∀ c ∈ [one], c = one := fun c hc => by simpa using hc
  refine ⟨by decide, by decide, by decide, fun c hc => ?_, fun c hc => ?_, fun c hc => ?_, fun c hc => ?_⟩ <;> rw [e c hc]
  · exact ⟨⟨by decide, by decide⟩, ⟨by decide, by decide⟩, by decide, ⟨by decide, by decide⟩, by decide⟩
  · decide
  · decide
  · decide
theorem leastK_ge {l : List Co} {ks : List Int} (h : okK l ks = true) : ∀ (i j : Nat) (x y : Int), i < j → ks[i]? = some x → ks[j]? = some y → x < y := by
  intro i j
  induction j with
  | zero => intro x y hij; omega
  | succ j ih =>
    intro x y hij hx hy
    have hjl := (List.getElem?_eq_some_iff.1 hy).1
    have h1 := (okKAt_parts.1 ((okK_iff.1 h).2 (j + 1) y hy)).1.1
    obtain ⟨z, hz⟩ : ∃ z, ks[j]? = some z := ⟨_, List.getElem?_eq_getElem (by omega)⟩
    unfold leastK at h1
    rw [if_neg (by omega), Nat.add_sub_cancel, getD_of hz] at h1
    rcases Nat.lt_or_ge i j with hij2 | hij2
    · have := ih x z hij2 hx hz; omega
    · obtain rfl : i = j := by omega
      rw [hx] at hz; injection hz with hz; omega
theorem okK_sorted {l : List Co} {ks : List Int} (h : okK l ks = true) : List.Pairwise (· < ·) ks := by
  rw [List.pairwise_iff_getElem]
  intro i j hi hj hij
  exact leastK_ge h i j _ _ hij (List.getElem?_eq_getElem hi) (List.getElem?_eq_getElem hj)
theorem okK_range {l : List Co} {ks : List Int} (h : okK l ks = true) : ∀ k ∈ ks, (0 : Int) ≤ k ∧ k < (l.length : Int) := by
  intro k hk
  obtain ⟨i, hi⟩ := List.getElem?_of_mem hk
  have h1 := (okKAt_parts.1 ((okK_iff.1 h).2 i k hi)).1
  have := leastK_pos h i (by have := (List.getElem?_eq_some_iff.1 hi).1; omega)
  omega
theorem Made.ki {cs : List Co} {ks : List Int} (h : Made cs ks) : ∀ k ∈ ks, Cl.I64 k := fun k hk => by
  have := okK_range h.kk k hk
  have := h.l16
  constructor <;> omega
theorem Made.cols {cs : List Co} {ks : List Int} (h : Made cs ks) : ∀ c ∈ cs, Col c := col_of_ok h.ok h.ko
/-- What is read of a text that may be. -/
theorem parse_text {cs : List Co} {ks : List Int} (hc : ∀ c ∈ cs, Col c) (h : ck cs ks = 0) (hl : (text cs ks).length ≤ 1048576) : parse (text cs ks) = ⟨cs, ks, 0, 0⟩ := by
  obtain ⟨h1, h2⟩ := ck_zero.1 h
  unfold parse
  rw [if_neg (by omega)]
  unfold text
  rw [prs_text ks cs 0 [] [] hc, List.nil_append, List.nil_append, keysFrom_all cs 0 ks (okK_sorted h2) (fun k hk => by have := okK_range h2 k hk; simp; omega)]
  unfold fin
  rw [if_pos h]
theorem _root_.Go.Proofs.YtjmphlboickhdaaGreatDoor.Cl.txt_small {u : Bool} {k : Int} {c : C} (hk : may k = true) (h : of u k c = true) (hi : I64 c.n) (hs : c.s.size ≤ 4) : (txt k c).size ≤ 60 := by
  rcases of_parts h with ⟨a1, _⟩ | ⟨a1, a2⟩
  · unfold txt; rw [if_pos a1]; decide
  · unfold isK at a2
    unfold txt
    rw [a1, if_neg (by simp)]
    obtain ⟨k0, k5⟩ := may_le hk
    rcases (show k = 1 ∨ k = 2 ∨ k = 3 ∨ k = 4 ∨ k = 5 by omega) with rfl | rfl | rfl | rfl | rfl
    · simp only [if_true]; split <;> decide
    · simp
      exact Nat.le_trans (itS_size _ hi.1 hi.2) (by omega)
    · simp
      exact Nat.le_trans (itS_size _ hi.1 hi.2) (by omega)
    · simp [a1] at a2
      simp [str_size]
      have : ∀ l : List Nat, (Utf.escs l).length ≤ 6 * l.length := fun l => by
        induction l with
        | nil => simp [Utf.escs]
        | cons b l ih => rw [Utf.escs_cons, List.length_append, List.length_cons]; have := (Utf.escB_len b).2; omega
      have := this (bl c.s)
      rw [bl_length] at this
      unfold Utf.tidy
      simp; omega
    · simp [a1] at a2
      simp [str_size, hexs_len, bl_length]; omega
theorem line_small {c : Co} {y : Bool} (h : Col c) (hs : c.d.s.size ≤ 4) : (line c y).length ≤ 200 := by
  have h1 := dnum_len h.id0 h.id1
  have h2 := Sc.name_len h.nm
  have h3 := typ_len c.u c.k y
  have h4 := Cl.txt_small h.may.1 h.may.2 h.n64 hs
  rw [← bl_length, itS_dnum] at h1
  rw [← bl_length] at h4
  unfold line
  simp only [List.length_append, List.length_cons, List.length_nil]
  omega
theorem textFrom_small (K : List Int) : ∀ (l : List Co) (i : Nat), (∀ c ∈ l, Col c) → (∀ c ∈ l, c.d.s.size ≤ 4) → (textFrom K i l).length ≤ l.length * 200
  | [], i, _, _ => by simp [textFrom]
  | c :: l, i, h, hs => by
    have h1 := line_small (y := K.contains (i : Int)) (h c (by simp)) (hs c (by simp))
    have h2 := textFrom_small K l (i + 1) (fun d hd => h d (List.mem_cons_of_mem _ hd)) (fun d hd => hs d (List.mem_cons_of_mem _ hd))
    rw [textFrom, List.length_append, List.length_cons, Nat.add_mul]; omega
theorem Made.small {cs : List Co} {ks K : List Int} (h : Made cs ks) : (text cs K).length ≤ 3200 := by
  have := textFrom_small K cs 0 h.cols h.sm
  have := h.l16
  unfold text; omega
theorem line_byte {c : Co} {y : Bool} (h : Col c) : ∀ z ∈ line c y, z < 256 := by
  intro z hz
  rw [line_pre] at hz
  rcases List.mem_append.1 hz with hz | hz
  · exact pre_byte h z hz
  · simp at hz; omega
theorem textFrom_byte (K : List Int) : ∀ (l : List Co) (i : Nat), (∀ c ∈ l, Col c) → ∀ z ∈ textFrom K i l, z < 256
  | [], i, _, z, hz => by simp [textFrom] at hz
  | c :: l, i, h, z, hz => by
    rw [textFrom] at hz
    rcases List.mem_append.1 hz with hz | hz
    · exact line_byte (h c (by simp)) z hz
    · exact textFrom_byte K l (i + 1) (fun d hd => h d (List.mem_cons_of_mem _ hd)) z hz
theorem textFrom_ten (K : List Int) : ∀ (l : List Co) (i : Nat), (∀ c ∈ l, Col c) → (textFrom K i l).count 10 = l.length
  | [], i, _ => rfl
  | c :: l, i, h => by
    rw [textFrom, List.count_append, textFrom_ten K l (i + 1) (fun d hd => h d (List.mem_cons_of_mem _ hd)), line_pre, List.count_append, List.count_eq_zero_of_not_mem (pre_ten (h c (by simp)))]
    simp; omega
/-- A made schema's text: its bytes, its size, what is read of it, how many lines it has. -/
structure MText (cs : List Co) (ks : List Int) (t : ByteArray) : Prop where
  b : bl t = text cs ks
  s : t.size ≤ 3200
  p : parse (bl t) = ⟨cs, ks, 0, 0⟩
  n : (bl t).count 10 = cs.length
theorem Made.text {cs : List Co} {ks : List Int} (h : Made cs ks) : MText cs ks (str (text cs ks)) := by
  have hb : bl (str (Sc.text cs ks)) = Sc.text cs ks := bl_str _ (textFrom_byte ks cs 0 h.cols)
  have hs := h.small (K := ks)
  exact ⟨hb, by rw [str_size]; exact hs, by rw [hb]; exact parse_text h.cols h.ck (by omega), by rw [hb]; exact textFrom_ten ks cs 0 h.cols⟩
end Go.Proofs.YtjmphlboickhdaaGreatDoor.Sc

/- The law's made: the schema of a seed. -/
namespace Go.Proofs.YtjmphlboickhdaaGreatDoor
open Go.RowKit Go.Sort
set_option linter.unusedVariables false
set_option linter.unusedSimpArgs false
set_option maxRecDepth 100000

structure MW (w : World) (sv : Value) (K : Int) (cs : List Co) (ks : List Int) (cv kv : Value) (W : World) : Prop where
  x : Blk W w.heap.size 49 [sv, .int .i64 K]
  r : Blk W (w.heap.size + 1) 25 [nilS, nilS]
  s : Blk W (w.heap.size + 1 + 1) 25 [cv, kv]
  oc : OwnK W (w.heap.size + 3) cv cs
  ok : OwnI W (w.heap.size + 3) kv ks
  b : Below w.heap.size w W
  sz : w.heap.size + 3 ≤ W.heap.size
theorem MW.start (w : World) (sv : Value) (K : Int) : MW w sv K [] [] nilS nilS (((w.alloc (.cells #[sv, .int .i64 K] 49)).alloc (.cells #[nilS, nilS] 25)).alloc (.cells #[nilS, nilS] 25)) := by
  refine ⟨?_, ?_, ?_, Gn.Own.nil _ _, Gn.Own.nil _ _, up_box (up_box (box_new _ _) _) _, by simp⟩
  · exact ((Blk.new w 49 _).later (box_new _ _)).later (box_new _ _)
  · have := (Blk.new (w.alloc (.cells #[sv, .int .i64 K] 49)) 25 #[nilS, nilS]).later (box_new _ (.cells #[nilS, nilS] 25))
    simpa using this
  · have := Blk.new ((w.alloc (.cells #[sv, .int .i64 K] 49)).alloc (.cells #[nilS, nilS] 25)) 25 #[nilS, nilS]
    simpa using this
theorem MW.later {w W W' : World} {sv : Value} {K : Int} {cs : List Co} {ks : List Int} {cv kv : Value} (h : MW w sv K cs ks cv kv W) (hb : Below W.heap.size W W') : MW w sv K cs ks cv kv W' :=
  ⟨h.x.later hb, h.r.later hb, h.s.later hb, Gn.Own.later h.oc hb, Gn.Own.later h.ok hb, up h.b hb, Nat.le_trans h.sz hb.size⟩
theorem MW.key {w W W' : World} {sv : Value} {K : Int} {cs : List Co} {ks ks' : List Int} {cv kv v : Value} (h : MW w sv K cs ks cv kv W) (ho : OwnI W' (w.heap.size + 3) v ks') (hg : W.grownBy W' kv.ownBlock) :
    Blk W' (w.heap.size + 1 + 1) 25 [cv, kv] ∧ MW w sv K cs ks' cv v (W'.setCell ⟨w.heap.size + 1 + 1, 1, none⟩ v) := by
  have h3 : Blk W' (w.heap.size + 1 + 1) 25 [cv, kv] := h.s.app hg h.ok (by omega)
  refine ⟨h3, (h.x.app hg h.ok (by omega)).far (by simp only; omega) v, (h.r.app hg h.ok (by omega)).far (by simp only; omega) v, Blk.put h3 1 v, own_far (Gn.Own.kept h.oc hg (own_apart2 h.oc h.ok (by decide))) (by simp only; omega) v, own_far ho (by simp only; omega) v, ?_, ?_⟩
  · exact (h.b.grown hg (by have := h.sz; omega) (fun g e => by have := (h.ok.lt g e).1; omega)).setCell (by simp only; omega) v
  · have := hg.size; have := h.sz; simp; omega
theorem MW.col {w W W' : World} {sv : Value} {K : Int} {cs cs' : List Co} {ks : List Int} {cv kv v : Value} (h : MW w sv K cs ks cv kv W) (ho : OwnK W' (w.heap.size + 3) v cs') (hg : W.grownBy W' cv.ownBlock) :
    Blk W' (w.heap.size + 1 + 1) 25 [cv, kv] ∧ MW w sv K cs' ks v kv (W'.setCell ⟨w.heap.size + 1 + 1, 0, none⟩ v) := by
  have h3 : Blk W' (w.heap.size + 1 + 1) 25 [cv, kv] := h.s.app hg h.oc (by omega)
  refine ⟨h3, (h.x.app hg h.oc (by omega)).far (by simp only; omega) v, (h.r.app hg h.oc (by omega)).far (by simp only; omega) v, Blk.put h3 0 v, own_far ho (by simp only; omega) v, own_far (Gn.Own.kept h.ok hg (own_apart2 h.ok h.oc (by decide))) (by simp only; omega) v, ?_, ?_⟩
  · exact (h.b.grown hg (by have := h.sz; omega) (fun g e => by have := (h.oc.lt g e).1; omega)).setCell (by simp only; omega) v
  · have := hg.size; have := h.sz; simp; omega
theorem Touch.of_grown {w w' : World} {row : Option Nat} {S : Nat → Prop} (h : w.grownBy w' row) (hS : ∀ k, row = some k → S k) : Touch S w w' :=
  ⟨h.os, h.tape, h.output, h.size, fun k hk hn => h.block k hk (fun e => hn (hS k e.symm))⟩
theorem rd_blk {u : World} {b : Nat} {c : Co} (h : Blk u b 36 [.int .i64 c.id, .string c.nm, .int .i64 c.k, .bool c.u, .bool c.d.u, .int .i64 c.d.n, .string c.d.s]) : RdK u u.heap.size (.slice (some ⟨b, 0, none⟩) 1 1) [c] :=
  ⟨_, 1, rfl, by simp, by simp [maxLen], by simp, fun _ => ⟨b, 0, rfl, h.lt, fun i x j q hi hj => by
    have hi0 : i = 0 := by
      have := (List.getElem?_eq_some_iff.1 hi).1
      simp at this; exact this
    subst hi0
    simp at hi
    subst hi
    rw [show 0 + 0 * 7 + j = j by omega, h.cell j]
    exact hj⟩⟩
/-- What the append leaves, ahead of the store. -/
structure MA (w : World) (sv : Value) (K : Int) (cs : List Co) (ks : List Int) (kv v : Value) (W : World) : Prop where
  x : Blk W w.heap.size 49 [sv, .int .i64 K]
  r : Blk W (w.heap.size + 1) 25 [nilS, nilS]
  oc : OwnK W (w.heap.size + 3) v cs
  ok : OwnI W (w.heap.size + 3) kv ks
  b : Below w.heap.size w W
  sz : w.heap.size + 3 ≤ W.heap.size
theorem MA.later {w W W' : World} {sv : Value} {K : Int} {cs : List Co} {ks : List Int} {kv v : Value} (h : MA w sv K cs ks kv v W) (hb : Below W.heap.size W W') : MA w sv K cs ks kv v W' :=
  ⟨h.x.later hb, h.r.later hb, Gn.Own.later h.oc hb, Gn.Own.later h.ok hb, up h.b hb, Nat.le_trans h.sz hb.size⟩
theorem MA.put {w W : World} {sv : Value} {K : Int} {cs : List Co} {ks : List Int} {kv v : Value} (h : MA w sv K cs ks kv v W) (u : Value) : MA w sv K cs ks kv v (W.setCell ⟨w.heap.size + 1 + 1, 0, none⟩ u) :=
  ⟨h.x.far (by simp only; omega) u, h.r.far (by simp only; omega) u, own_far h.oc (by simp only; omega) u, own_far h.ok (by simp only; omega) u, h.b.setCell (by simp only; omega) u, by have := h.sz; simpa using this⟩
theorem MA.mw {w W : World} {sv : Value} {K : Int} {cs : List Co} {ks : List Int} {kv v cv : Value} (h : MA w sv K cs ks kv v W) (hs : Blk W (w.heap.size + 1 + 1) 25 [cv, kv]) : MW w sv K cs ks v kv (W.setCell ⟨w.heap.size + 1 + 1, 0, none⟩ v) :=
  have h' := h.put v
  ⟨h'.x, h'.r, Blk.put hs 0 v, h'.oc, h'.ok, h'.b, h'.sz⟩
theorem MW.app {w W W' : World} {sv : Value} {K : Int} {cs cs' : List Co} {ks : List Int} {cv kv v : Value} (h : MW w sv K cs ks cv kv W) (ho : OwnK W' (w.heap.size + 3) v cs') (hg : W.grownBy W' cv.ownBlock) : MA w sv K cs' ks kv v W' ∧ Blk W' (w.heap.size + 1 + 1) 25 [cv, kv] :=
  ⟨⟨h.x.app hg h.oc (by omega), h.r.app hg h.oc (by omega), ho, Gn.Own.kept h.ok hg (own_apart2 h.ok h.oc (by decide)), h.b.grown hg (by have := h.sz; omega) (fun g e => by have := (h.oc.lt g e).1; omega), Nat.le_trans h.sz hg.size⟩, h.s.app hg h.oc (by omega)⟩
theorem retS1 {fn : Func} {p : Tmp} (h : fn.results = #[.cell p 25]) (tmps : Array Value) (w : World) (g : Nat) (cv kv : Value) (hp : tmps.getD p undef = .pointer (some ⟨g, 0, none⟩)) (hg : w.heap[g]? = some (.cells #[cv, kv] 25 (0, 0))) :
    (results fn tmps).run Tryz.prog w = .ok (.agg #[cv, kv]) w :=
  results_cell_row h tmps w g 25 _ (0, 0) _ hp hg Tryz.underlying25 rfl schema_info
/-- What made answers. -/
def MPost (w : World) (e : Ending) (w' : World) : Prop := ∃ cv kv cs ks, e = .returned (.agg #[cv, kv]) ∧ Sc.Made cs ks ∧ OwnK w' w.heap.size cv cs ∧ OwnI w' w.heap.size kv ks ∧ Below w.heap.size w w'
theorem bit_or (n : Int) : n = 1 ∨ n ≠ 1 := by omega
set_option maxHeartbeats 8000000 in
theorem lMade (sv : Value) (L : List S5) (K : Int) (w : World) (hS : RdA w w.heap.size sv L) (hin : ∀ x ∈ L, S5.In x) (hK : Cl.I64 K) :
    Calls Tryz.prog 27 #[.agg #[sv, .int .i64 K]] w fun e w' => MPost w e w' := by
  have HX := Lib.hid (MW.start w sv K)
  have HR := Lib.hid hS
  have HIN := Lib.hid hin
  have HK := Lib.hid hK
  have hL := Gn.Rd.len' hS
  obtain ⟨a, c, rfl, _⟩ := Gn.Rd.form hS
  clear hS hin hK
  unfold nilS at HX
  go_enter Tryz.func27, Tryz.ntmps27
  go_wp2_with fail
  generalize (((w.alloc (.cells #[.slice a L.length c, .int .i64 K] 49)).alloc (.cells #[.slice none 0 0, .slice none 0 0] 25)).alloc (.cells #[.slice none 0 0, .slice none 0 0] 25)) = w0 at *
  go_loopw [4, 5] (fun id i wr => ∃ (k : Nat) (l : List Co) (ks : List Int) (n : Int) (cv kv : Value), k ≤ L.length ∧ k ≤ 16 ∧ i = .int .i64 (k : Nat) ∧ id = .int .i64 n ∧ Hid (l.length = k) ∧ Hid (Sc.MC l n) ∧ Hid (Sc.okK l ks = true) ∧ Hid (MW w (.slice a L.length c) K l ks cv kv wr)) (fun _ i _ => 16 - (intOf i).toNat)
  case atStart => exact ⟨0, [], [], 0, _, _, by omega, by omega, by rfl, by rfl, Lib.hid rfl, Lib.hid Sc.MC.nil, Lib.hid (Sc.okK_nil _), HX⟩
  case round =>
    obtain ⟨k, l, ks, n, cv, kv, hk, hk16, rfl, rfl, HL, HMC, HOK, HM⟩ := hrel
    have x0 := HM.out.x.cell 0
    have x1 := HM.out.x.cell 1
    have s0 := HM.out.s.cell 0
    have s1 := HM.out.s.cell 1
    simp only [List.getElem?_cons_succ, List.getElem?_cons_zero] at x0 x1 s0 s1
    by_cases hlt : k < L.length
    · have hlt1 : (k : Int) < L.length := by omega
      by_cases h16 : k < 16
      · have h161 : (k : Int) < 16 := by omega
        obtain ⟨x, hx⟩ : ∃ x, L[k]? = some x := ⟨_, List.getElem?_eq_getElem hlt⟩
        have hxi := HIN.out x (List.mem_of_getElem? hx)
        obtain ⟨gb, off, rfl, r0, r1, r2, r3, r4⟩ := rdA_cells HR.out HM.out.b hx
        have hnb := HMC.out.id_bound
        have hlk := HL.out
        have hn0 : 0 ≤ n := hnb.1
        have hn1 : n ≤ 1000000 := by have := hnb.2; omega
        obtain ⟨cc, hcc⟩ : ∃ cc, Sc.mcol x.a x.b x.c x.d x.e n k = cc := ⟨_, rfl⟩
        have HC := Lib.hid (fun w1 => lCol x.a x.b x.c x.d x.e n k w1 hxi.a hxi.b hxi.c hxi.d hxi.e hn0 hn1 h16)
        rw [hcc] at HC
        have HMC2 := Lib.hid (HMC.out.snoc x.a x.b x.c x.d x.e)
        rw [hlk, hcc] at HMC2
        obtain ⟨xa, xb, xc, xd, xe⟩ := x
        obtain ⟨ci, cm, ck, cu, ⟨du, dn, ds⟩⟩ := cc
        unfold kov at HC
        simp only at HC r0 r1 r2 r3 r4 HMC2
        have hgb : gb < w.heap.size := by
          obtain ⟨b', off', e1, h1, _⟩ := Gn.Rd.at HR.out (Below.refl _ _) (i := k) hlt
          injection e1 with e1; injection e1 with e1 _ _; omega
        obtain ⟨cn0, ca, ccp, rfl⟩ := own_form HM.out.oc
        obtain ⟨ka, kc, rfl, _⟩ := Gn.Rd.form (RdI.of HM.out.ok)
        have HNS : Hid (∀ q, q < w.heap.size + 3 → q ≠ w.heap.size + 1 + 1 → ¬ (q = w.heap.size + 1 + 1 ∨ (Value.slice ca cn0 ccp).ownBlock = some q)) := Lib.hid (fun q h1 h2 h3 => by
          rcases h3 with h3 | h3
          · exact h2 h3
          · have := (HM.out.oc.lt q h3).1; omega)
        have HSZ := Lib.hid HM.out.sz
        have HLL : Hid (l.length + ([(⟨ci, cm, ck, cu, ⟨du, dn, ds⟩⟩ : Co)] : List Co).length ≤ 100000000) := Lib.hid (by simp; omega)
        have HLN : Hid ((l ++ [(⟨ci, cm, ck, cu, ⟨du, dn, ds⟩⟩ : Co)]).length = k + 1) := Lib.hid (by simp; omega)
        clear hx hxi hcc hnb x1 s1 hlk
        go_upto_region 6 with fail
        refine region_growI_merge (fun u v => Touch (fun q => q = w.heap.size + 1 + 1 ∨ (Value.slice ca cn0 ccp).ownBlock = some q) u v) (fun d u => (d 11 = false → MW w (.slice (some ⟨gb, off, none⟩) L.length c) K l ks (.slice ca cn0 ccp) (.slice ka ks.length kc) u) ∧ (d 13 = false → Blk u (w.heap.size + 1 + 1) 25 [.slice ca cn0 ccp, .slice ka ks.length kc]) ∧ (d 13 = true → d 11 = true ∧ ∃ v1, MW w (.slice (some ⟨gb, off, none⟩) L.length c) K (l ++ [(⟨ci, cm, ck, cu, ⟨du, dn, ds⟩⟩ : Co)]) ks v1 (.slice ka ks.length kc) u) ∧ (d 11 = true → d 1 = true)) (fun d u v => d 11 = true → ∀ x, (fun v u => MA w (.slice (some ⟨gb, off, none⟩) L.length c) K (l ++ [(⟨ci, cm, ck, cu, ⟨du, dn, ds⟩⟩ : Co)]) ks (.slice ka ks.length kc) v u) x u → (fun v u => MA w (.slice (some ⟨gb, off, none⟩) L.length c) K (l ++ [(⟨ci, cm, ck, cu, ⟨du, dn, ds⟩⟩ : Co)]) ks (.slice ka ks.length kc) v u) x v) (fun u => Touch.refl _ _) (fun _ _ _ h k => h.trans k (fun _ h => .inl h)) (kjP 11 (fun v u => MA w (.slice (some ⟨gb, off, none⟩) L.length c) K (l ++ [(⟨ci, cm, ck, cu, ⟨du, dn, ds⟩⟩ : Co)]) ks (.slice ka ks.length kc) v u) #[Spc.eq (.pointer (some ⟨w.heap.size + 1 + 1, 0, none⟩)), Spc.eq (.slice ca cn0 ccp), Spc.eq (.pointer (some ⟨w.heap.size, 0, none⟩)), Spc.eq (.slice (some ⟨gb, off, none⟩) L.length c), Spc.eq (.int .i64 (k : Nat)), Spc.eq (.pointer (some ⟨gb, off + k * 5, none⟩)), Spc.eq (.agg #[.int .i64 xa, .int .i64 xb, .int .i64 xc, .int .i64 xd, .int .i64 xe]), Spc.eq (.int .i64 n), Spc.eq (.int .i64 (k : Nat)), Spc.eq (.agg #[.int .i64 ci, .string cm, .int .i64 ck, .bool cu, .bool du, .int .i64 dn, .string ds]), ⟨fun v u => ∃ b, v = .slice (some ⟨b, 0, none⟩) 1 1 ∧ ¬ (b = w.heap.size + 1 + 1 ∨ (Value.slice ca cn0 ccp).ownBlock = some b) ∧ Blk u b 36 [.int .i64 ci, .string cm, .int .i64 ck, .bool cu, .bool du, .int .i64 dn, .string ds], fun _ _ _ h hb => by obtain ⟨b, h1, h2, h3⟩ := h; exact ⟨b, h1, h2, h3.touch hb h2⟩⟩, Spc.any, Spc.eq (.pointer (some ⟨w.heap.size + 1 + 1, 0, none⟩)), Spc.any]) [17, 18, 19, 20, 21, 22, 23, 24, 25, 26, 27, 28, 29] (fun ts u => ∃ va vc, MW w (.slice (some ⟨gb, off, none⟩) L.length c) K (l ++ [(⟨ci, cm, ck, cu, ⟨du, dn, ds⟩⟩ : Co)]) ks (.slice va (k + 1) vc) (.slice ka ks.length kc) u) (by kernel_rfl) (by kernel_rfl) (by kernel_rfl) kjP_later ⟨fun _ => HM.out.later (Below.refl _ _).drew, fun _ => HM.out.s.later (Below.refl _ _).drew, fun h => (by cases h), fun h => (by cases h)⟩ ?_ ?_ ?_
        · intro QQ fd j o a w1 ho hfd hdd hI hb hs hold hdep
          have hj : j < 14 := (Array.getElem?_eq_some_iff.1 ho).1
          skip
          have hq0 : w1.cell? ⟨w.heap.size, 0, none⟩ = some (.slice (some ⟨gb, off, none⟩) L.length c) := (hb.cell (p := ⟨w.heap.size, 0, none⟩) (cell_lt x0) (HNS.out _ (by simp only; omega) (by simp only; omega))).trans x0
          have g0 : w1.cell? ⟨gb, off + k * 5, none⟩ = some (.int .i64 xa) := (hb.cell (p := ⟨gb, off + k * 5, none⟩) (cell_lt r0) (HNS.out _ (by simp only; omega) (by simp only; omega))).trans r0
          have g1 : w1.cell? ⟨gb, off + k * 5 + 1, none⟩ = some (.int .i64 xb) := (hb.cell (p := ⟨gb, off + k * 5 + 1, none⟩) (cell_lt r1) (HNS.out _ (by simp only; omega) (by simp only; omega))).trans r1
          have g2 : w1.cell? ⟨gb, off + k * 5 + 2, none⟩ = some (.int .i64 xc) := (hb.cell (p := ⟨gb, off + k * 5 + 2, none⟩) (cell_lt r2) (HNS.out _ (by simp only; omega) (by simp only; omega))).trans r2
          have g3 : w1.cell? ⟨gb, off + k * 5 + 3, none⟩ = some (.int .i64 xd) := (hb.cell (p := ⟨gb, off + k * 5 + 3, none⟩) (cell_lt r3) (HNS.out _ (by simp only; omega) (by simp only; omega))).trans r3
          have g4 : w1.cell? ⟨gb, off + k * 5 + 4, none⟩ = some (.int .i64 xe) := (hb.cell (p := ⟨gb, off + k * 5 + 4, none⟩) (cell_lt r4) (HNS.out _ (by simp only; omega) (by simp only; omega))).trans r4
          have hszr : wr.heap.size ≤ w1.heap.size := hb.size
          have hfr : ¬ (w1.heap.size = w.heap.size + 1 + 1 ∨ (Value.slice ca cn0 ccp).ownBlock = some w1.heap.size) := by
            rintro (h | h)
            · have := HSZ.out; omega
            · have := (HM.out.oc.lt _ h).2; omega
          have hq1 : fd 13 = false → w1.cell? ⟨w.heap.size + 1 + 1, 0, none⟩ = some (.slice ca cn0 ccp) := fun h => (hI.2.1 h).cell 0
          clear r0 r1 r2 r3 r4 x0 s0
          have e1 : a.eval (.tmp 1) = .pointer (some ⟨w.heap.size, 0, none⟩) := by
            show a.tmps.getD 1 undef = _
            rw [Array.getD_eq_getD_getElem?, hold 1 (by decide +kernel)]; rfl
          have e3 : a.eval (.tmp 3) = .pointer (some ⟨w.heap.size + 1 + 1, 0, none⟩) := by
            show a.tmps.getD 3 undef = _
            rw [Array.getD_eq_getD_getElem?, hold 3 (by decide +kernel)]; rfl
          have e4 : a.eval (.tmp 4) = .int .i64 n := by
            show a.tmps.getD 4 undef = _
            rw [Array.getD_eq_getD_getElem?, hold 4 (by decide +kernel)]; rfl
          have e5 : a.eval (.tmp 5) = .int .i64 (k : Nat) := by
            show a.tmps.getD 5 undef = _
            rw [Array.getD_eq_getD_getElem?, hold 5 (by decide +kernel)]; rfl
          have ec : ∀ v, a.eval (.const v) = v := fun _ => rfl
          clear hold hs
          rcases (show j = 0 ∨ j = 1 ∨ j = 2 ∨ j = 3 ∨ j = 4 ∨ j = 5 ∨ j = 6 ∨ j = 7 ∨ j = 8 ∨ j = 9 ∨ j = 10 ∨ j = 11 ∨ j = 12 ∨ j = 13 by omega) with rfl | rfl | rfl | rfl | rfl | rfl | rfl | rfl | rfl | rfl | rfl | rfl | rfl | rfl
          · have ho2 := ho; simp only [List.getElem?_toArray, List.getElem?_cons_succ, List.getElem?_cons_zero, Option.some.injEq] at ho2; subst ho2
            refine growI_val (I := (fun d u => (d 11 = false → MW w (.slice (some ⟨gb, off, none⟩) L.length c) K l ks (.slice ca cn0 ccp) (.slice ka ks.length kc) u) ∧ (d 13 = false → Blk u (w.heap.size + 1 + 1) 25 [.slice ca cn0 ccp, .slice ka ks.length kc]) ∧ (d 13 = true → d 11 = true ∧ ∃ v1, MW w (.slice (some ⟨gb, off, none⟩) L.length c) K (l ++ [(⟨ci, cm, ck, cu, ⟨du, dn, ds⟩⟩ : Co)]) ks v1 (.slice ka ks.length kc) u) ∧ (d 11 = true → d 1 = true))) (X := (fun d u v => d 11 = true → ∀ x, (fun v u => MA w (.slice (some ⟨gb, off, none⟩) L.length c) K (l ++ [(⟨ci, cm, ck, cu, ⟨du, dn, ds⟩⟩ : Co)]) ks (.slice ka ks.length kc) v u) x u → (fun v u => MA w (.slice (some ⟨gb, off, none⟩) L.length c) K (l ++ [(⟨ci, cm, ck, cu, ⟨du, dn, ds⟩⟩ : Co)]) ks (.slice ka ks.length kc) v u) x v)) (d := fd) (a := a) (w := w1) (.pointer (some ⟨w.heap.size + 1 + 1, 0, none⟩)) w1 ho rfl ?_ ((fun u => Touch.refl _ _) w1) ⟨fun h => (hI.1 (by simpa [upd] using h)).later (Below.refl _ _), fun h => (hI.2.1 (by simpa [upd] using h)).later (Below.refl _ _), fun h => have h' := hI.2.2.1 (by simpa [upd] using h); ⟨by have := h'.1; simp [upd, this], h'.2.elim fun v1 hv => ⟨v1, hv.later (Below.refl _ _)⟩⟩, fun h => by have h1 := hI.2.2.2 (by simpa [upd] using h); simp [upd, h1]⟩ (fun _ v hv => hv.later (Below.refl _ _)) rfl
            unfold execOp
            simp only [List.map_toArray, List.map_cons, List.map_nil, e3, ec]
            first | rfl | (go_simp; done) | (go_simp; rfl) | (go_simp; omega)
          · have ho2 := ho; simp only [List.getElem?_toArray, List.getElem?_cons_succ, List.getElem?_cons_zero, Option.some.injEq] at ho2; subst ho2
            have d0 : a.eval (.tmp 17) = .pointer (some ⟨w.heap.size + 1 + 1, 0, none⟩) := hdep ⟨0, .data⟩ (by simp) rfl
            refine growI_val (I := (fun d u => (d 11 = false → MW w (.slice (some ⟨gb, off, none⟩) L.length c) K l ks (.slice ca cn0 ccp) (.slice ka ks.length kc) u) ∧ (d 13 = false → Blk u (w.heap.size + 1 + 1) 25 [.slice ca cn0 ccp, .slice ka ks.length kc]) ∧ (d 13 = true → d 11 = true ∧ ∃ v1, MW w (.slice (some ⟨gb, off, none⟩) L.length c) K (l ++ [(⟨ci, cm, ck, cu, ⟨du, dn, ds⟩⟩ : Co)]) ks v1 (.slice ka ks.length kc) u) ∧ (d 11 = true → d 1 = true))) (X := (fun d u v => d 11 = true → ∀ x, (fun v u => MA w (.slice (some ⟨gb, off, none⟩) L.length c) K (l ++ [(⟨ci, cm, ck, cu, ⟨du, dn, ds⟩⟩ : Co)]) ks (.slice ka ks.length kc) v u) x u → (fun v u => MA w (.slice (some ⟨gb, off, none⟩) L.length c) K (l ++ [(⟨ci, cm, ck, cu, ⟨du, dn, ds⟩⟩ : Co)]) ks (.slice ka ks.length kc) v u) x v)) (d := fd) (a := a) (w := w1) (.slice ca cn0 ccp) w1 ho rfl ?_ ((fun u => Touch.refl _ _) w1) ⟨fun h => (hI.1 (by simpa [upd] using h)).later (Below.refl _ _), fun h => (hI.2.1 (by simpa [upd] using h)).later (Below.refl _ _), fun h => have h' := hI.2.2.1 (by simpa [upd] using h); ⟨by have := h'.1; simp [upd, this], h'.2.elim fun v1 hv => ⟨v1, hv.later (Below.refl _ _)⟩⟩, fun h => by have h1 := hI.2.2.2 (by simpa [upd] using h); simp [upd, h1]⟩ (fun _ v hv => hv.later (Below.refl _ _)) rfl
            have hd13 : fd 13 = false := by
              cases h : fd 13 with
              | false => rfl
              | true => exact absurd (hI.2.2.2 (hI.2.2.1 h).1) (by rw [hfd]; decide)
            have hl := hq1 hd13
            have d0 : a.eval (.tmp 17) = .pointer (some ⟨w.heap.size + 1 + 1, 0, none⟩) := hdep ⟨0, .data⟩ (by simp) rfl
            unfold execOp
            simp only [d0, ec]
            go_simp
          · have ho2 := ho; simp only [List.getElem?_toArray, List.getElem?_cons_succ, List.getElem?_cons_zero, Option.some.injEq] at ho2; subst ho2
            refine growI_val (I := (fun d u => (d 11 = false → MW w (.slice (some ⟨gb, off, none⟩) L.length c) K l ks (.slice ca cn0 ccp) (.slice ka ks.length kc) u) ∧ (d 13 = false → Blk u (w.heap.size + 1 + 1) 25 [.slice ca cn0 ccp, .slice ka ks.length kc]) ∧ (d 13 = true → d 11 = true ∧ ∃ v1, MW w (.slice (some ⟨gb, off, none⟩) L.length c) K (l ++ [(⟨ci, cm, ck, cu, ⟨du, dn, ds⟩⟩ : Co)]) ks v1 (.slice ka ks.length kc) u) ∧ (d 11 = true → d 1 = true))) (X := (fun d u v => d 11 = true → ∀ x, (fun v u => MA w (.slice (some ⟨gb, off, none⟩) L.length c) K (l ++ [(⟨ci, cm, ck, cu, ⟨du, dn, ds⟩⟩ : Co)]) ks (.slice ka ks.length kc) v u) x u → (fun v u => MA w (.slice (some ⟨gb, off, none⟩) L.length c) K (l ++ [(⟨ci, cm, ck, cu, ⟨du, dn, ds⟩⟩ : Co)]) ks (.slice ka ks.length kc) v u) x v)) (d := fd) (a := a) (w := w1) (.pointer (some ⟨w.heap.size, 0, none⟩)) w1 ho rfl ?_ ((fun u => Touch.refl _ _) w1) ⟨fun h => (hI.1 (by simpa [upd] using h)).later (Below.refl _ _), fun h => (hI.2.1 (by simpa [upd] using h)).later (Below.refl _ _), fun h => have h' := hI.2.2.1 (by simpa [upd] using h); ⟨by have := h'.1; simp [upd, this], h'.2.elim fun v1 hv => ⟨v1, hv.later (Below.refl _ _)⟩⟩, fun h => by have h1 := hI.2.2.2 (by simpa [upd] using h); simp [upd, h1]⟩ (fun _ v hv => hv.later (Below.refl _ _)) rfl
            unfold execOp
            simp only [List.map_toArray, List.map_cons, List.map_nil, e1, ec]
            first | rfl | (go_simp; done) | (go_simp; rfl) | (go_simp; omega)
          · have ho2 := ho; simp only [List.getElem?_toArray, List.getElem?_cons_succ, List.getElem?_cons_zero, Option.some.injEq] at ho2; subst ho2
            have d0 : a.eval (.tmp 19) = .pointer (some ⟨w.heap.size, 0, none⟩) := hdep ⟨2, .data⟩ (by simp) rfl
            refine growI_val (I := (fun d u => (d 11 = false → MW w (.slice (some ⟨gb, off, none⟩) L.length c) K l ks (.slice ca cn0 ccp) (.slice ka ks.length kc) u) ∧ (d 13 = false → Blk u (w.heap.size + 1 + 1) 25 [.slice ca cn0 ccp, .slice ka ks.length kc]) ∧ (d 13 = true → d 11 = true ∧ ∃ v1, MW w (.slice (some ⟨gb, off, none⟩) L.length c) K (l ++ [(⟨ci, cm, ck, cu, ⟨du, dn, ds⟩⟩ : Co)]) ks v1 (.slice ka ks.length kc) u) ∧ (d 11 = true → d 1 = true))) (X := (fun d u v => d 11 = true → ∀ x, (fun v u => MA w (.slice (some ⟨gb, off, none⟩) L.length c) K (l ++ [(⟨ci, cm, ck, cu, ⟨du, dn, ds⟩⟩ : Co)]) ks (.slice ka ks.length kc) v u) x u → (fun v u => MA w (.slice (some ⟨gb, off, none⟩) L.length c) K (l ++ [(⟨ci, cm, ck, cu, ⟨du, dn, ds⟩⟩ : Co)]) ks (.slice ka ks.length kc) v u) x v)) (d := fd) (a := a) (w := w1) (.slice (some ⟨gb, off, none⟩) L.length c) w1 ho rfl ?_ ((fun u => Touch.refl _ _) w1) ⟨fun h => (hI.1 (by simpa [upd] using h)).later (Below.refl _ _), fun h => (hI.2.1 (by simpa [upd] using h)).later (Below.refl _ _), fun h => have h' := hI.2.2.1 (by simpa [upd] using h); ⟨by have := h'.1; simp [upd, this], h'.2.elim fun v1 hv => ⟨v1, hv.later (Below.refl _ _)⟩⟩, fun h => by have h1 := hI.2.2.2 (by simpa [upd] using h); simp [upd, h1]⟩ (fun _ v hv => hv.later (Below.refl _ _)) rfl
            unfold execOp
            simp only [List.map_toArray, List.map_cons, List.map_nil, d0, ec]
            first | rfl | (go_simp; done) | (go_simp; rfl) | (go_simp; omega)
          · have ho2 := ho; simp only [List.getElem?_toArray, List.getElem?_cons_succ, List.getElem?_cons_zero, Option.some.injEq] at ho2; subst ho2
            refine growI_val (I := (fun d u => (d 11 = false → MW w (.slice (some ⟨gb, off, none⟩) L.length c) K l ks (.slice ca cn0 ccp) (.slice ka ks.length kc) u) ∧ (d 13 = false → Blk u (w.heap.size + 1 + 1) 25 [.slice ca cn0 ccp, .slice ka ks.length kc]) ∧ (d 13 = true → d 11 = true ∧ ∃ v1, MW w (.slice (some ⟨gb, off, none⟩) L.length c) K (l ++ [(⟨ci, cm, ck, cu, ⟨du, dn, ds⟩⟩ : Co)]) ks v1 (.slice ka ks.length kc) u) ∧ (d 11 = true → d 1 = true))) (X := (fun d u v => d 11 = true → ∀ x, (fun v u => MA w (.slice (some ⟨gb, off, none⟩) L.length c) K (l ++ [(⟨ci, cm, ck, cu, ⟨du, dn, ds⟩⟩ : Co)]) ks (.slice ka ks.length kc) v u) x u → (fun v u => MA w (.slice (some ⟨gb, off, none⟩) L.length c) K (l ++ [(⟨ci, cm, ck, cu, ⟨du, dn, ds⟩⟩ : Co)]) ks (.slice ka ks.length kc) v u) x v)) (d := fd) (a := a) (w := w1) (.int .i64 (k : Nat)) w1 ho rfl ?_ ((fun u => Touch.refl _ _) w1) ⟨fun h => (hI.1 (by simpa [upd] using h)).later (Below.refl _ _), fun h => (hI.2.1 (by simpa [upd] using h)).later (Below.refl _ _), fun h => have h' := hI.2.2.1 (by simpa [upd] using h); ⟨by have := h'.1; simp [upd, this], h'.2.elim fun v1 hv => ⟨v1, hv.later (Below.refl _ _)⟩⟩, fun h => by have h1 := hI.2.2.2 (by simpa [upd] using h); simp [upd, h1]⟩ (fun _ v hv => hv.later (Below.refl _ _)) rfl
            unfold execOp
            simp only [List.map_toArray, List.map_cons, List.map_nil, e5, ec]
            first | rfl | (go_simp; done) | (go_simp; rfl) | (go_simp; omega)
          · have ho2 := ho; simp only [List.getElem?_toArray, List.getElem?_cons_succ, List.getElem?_cons_zero, Option.some.injEq] at ho2; subst ho2
            have d0 : a.eval (.tmp 20) = .slice (some ⟨gb, off, none⟩) L.length c := hdep ⟨3, .data⟩ (by simp) rfl
            have d1 : a.eval (.tmp 21) = .int .i64 (k : Nat) := hdep ⟨4, .data⟩ (by simp) rfl
            refine growI_val (I := (fun d u => (d 11 = false → MW w (.slice (some ⟨gb, off, none⟩) L.length c) K l ks (.slice ca cn0 ccp) (.slice ka ks.length kc) u) ∧ (d 13 = false → Blk u (w.heap.size + 1 + 1) 25 [.slice ca cn0 ccp, .slice ka ks.length kc]) ∧ (d 13 = true → d 11 = true ∧ ∃ v1, MW w (.slice (some ⟨gb, off, none⟩) L.length c) K (l ++ [(⟨ci, cm, ck, cu, ⟨du, dn, ds⟩⟩ : Co)]) ks v1 (.slice ka ks.length kc) u) ∧ (d 11 = true → d 1 = true))) (X := (fun d u v => d 11 = true → ∀ x, (fun v u => MA w (.slice (some ⟨gb, off, none⟩) L.length c) K (l ++ [(⟨ci, cm, ck, cu, ⟨du, dn, ds⟩⟩ : Co)]) ks (.slice ka ks.length kc) v u) x u → (fun v u => MA w (.slice (some ⟨gb, off, none⟩) L.length c) K (l ++ [(⟨ci, cm, ck, cu, ⟨du, dn, ds⟩⟩ : Co)]) ks (.slice ka ks.length kc) v u) x v)) (d := fd) (a := a) (w := w1) (.pointer (some ⟨gb, off + k * 5, none⟩)) w1 ho rfl ?_ ((fun u => Touch.refl _ _) w1) ⟨fun h => (hI.1 (by simpa [upd] using h)).later (Below.refl _ _), fun h => (hI.2.1 (by simpa [upd] using h)).later (Below.refl _ _), fun h => have h' := hI.2.2.1 (by simpa [upd] using h); ⟨by have := h'.1; simp [upd, this], h'.2.elim fun v1 hv => ⟨v1, hv.later (Below.refl _ _)⟩⟩, fun h => by have h1 := hI.2.2.2 (by simpa [upd] using h); simp [upd, h1]⟩ (fun _ v hv => hv.later (Below.refl _ _)) rfl
            unfold execOp
            simp only [List.map_toArray, List.map_cons, List.map_nil, d0, d1, ec]
            first | rfl | (go_simp; done) | (go_simp; rfl) | (go_simp; omega)
          · have ho2 := ho; simp only [List.getElem?_toArray, List.getElem?_cons_succ, List.getElem?_cons_zero, Option.some.injEq] at ho2; subst ho2
            have d0 : a.eval (.tmp 22) = .pointer (some ⟨gb, off + k * 5, none⟩) := hdep ⟨5, .data⟩ (by simp) rfl
            refine growI_val (I := (fun d u => (d 11 = false → MW w (.slice (some ⟨gb, off, none⟩) L.length c) K l ks (.slice ca cn0 ccp) (.slice ka ks.length kc) u) ∧ (d 13 = false → Blk u (w.heap.size + 1 + 1) 25 [.slice ca cn0 ccp, .slice ka ks.length kc]) ∧ (d 13 = true → d 11 = true ∧ ∃ v1, MW w (.slice (some ⟨gb, off, none⟩) L.length c) K (l ++ [(⟨ci, cm, ck, cu, ⟨du, dn, ds⟩⟩ : Co)]) ks v1 (.slice ka ks.length kc) u) ∧ (d 11 = true → d 1 = true))) (X := (fun d u v => d 11 = true → ∀ x, (fun v u => MA w (.slice (some ⟨gb, off, none⟩) L.length c) K (l ++ [(⟨ci, cm, ck, cu, ⟨du, dn, ds⟩⟩ : Co)]) ks (.slice ka ks.length kc) v u) x u → (fun v u => MA w (.slice (some ⟨gb, off, none⟩) L.length c) K (l ++ [(⟨ci, cm, ck, cu, ⟨du, dn, ds⟩⟩ : Co)]) ks (.slice ka ks.length kc) v u) x v)) (d := fd) (a := a) (w := w1) (.agg #[.int .i64 xa, .int .i64 xb, .int .i64 xc, .int .i64 xd, .int .i64 xe]) w1 ho rfl ?_ ((fun u => Touch.refl _ _) w1) ⟨fun h => (hI.1 (by simpa [upd] using h)).later (Below.refl _ _), fun h => (hI.2.1 (by simpa [upd] using h)).later (Below.refl _ _), fun h => have h' := hI.2.2.1 (by simpa [upd] using h); ⟨by have := h'.1; simp [upd, this], h'.2.elim fun v1 hv => ⟨v1, hv.later (Below.refl _ _)⟩⟩, fun h => by have h1 := hI.2.2.2 (by simpa [upd] using h); simp [upd, h1]⟩ (fun _ v hv => hv.later (Below.refl _ _)) rfl
            unfold execOp
            simp only [List.map_toArray, List.map_cons, List.map_nil, d0, ec]
            first | rfl | (go_simp; done) | (go_simp; rfl) | (go_simp; omega)
          · have ho2 := ho; simp only [List.getElem?_toArray, List.getElem?_cons_succ, List.getElem?_cons_zero, Option.some.injEq] at ho2; subst ho2
            refine growI_val (I := (fun d u => (d 11 = false → MW w (.slice (some ⟨gb, off, none⟩) L.length c) K l ks (.slice ca cn0 ccp) (.slice ka ks.length kc) u) ∧ (d 13 = false → Blk u (w.heap.size + 1 + 1) 25 [.slice ca cn0 ccp, .slice ka ks.length kc]) ∧ (d 13 = true → d 11 = true ∧ ∃ v1, MW w (.slice (some ⟨gb, off, none⟩) L.length c) K (l ++ [(⟨ci, cm, ck, cu, ⟨du, dn, ds⟩⟩ : Co)]) ks v1 (.slice ka ks.length kc) u) ∧ (d 11 = true → d 1 = true))) (X := (fun d u v => d 11 = true → ∀ x, (fun v u => MA w (.slice (some ⟨gb, off, none⟩) L.length c) K (l ++ [(⟨ci, cm, ck, cu, ⟨du, dn, ds⟩⟩ : Co)]) ks (.slice ka ks.length kc) v u) x u → (fun v u => MA w (.slice (some ⟨gb, off, none⟩) L.length c) K (l ++ [(⟨ci, cm, ck, cu, ⟨du, dn, ds⟩⟩ : Co)]) ks (.slice ka ks.length kc) v u) x v)) (d := fd) (a := a) (w := w1) (.int .i64 n) w1 ho rfl ?_ ((fun u => Touch.refl _ _) w1) ⟨fun h => (hI.1 (by simpa [upd] using h)).later (Below.refl _ _), fun h => (hI.2.1 (by simpa [upd] using h)).later (Below.refl _ _), fun h => have h' := hI.2.2.1 (by simpa [upd] using h); ⟨by have := h'.1; simp [upd, this], h'.2.elim fun v1 hv => ⟨v1, hv.later (Below.refl _ _)⟩⟩, fun h => by have h1 := hI.2.2.2 (by simpa [upd] using h); simp [upd, h1]⟩ (fun _ v hv => hv.later (Below.refl _ _)) rfl
            unfold execOp
            simp only [List.map_toArray, List.map_cons, List.map_nil, e4, ec]
            first | rfl | (go_simp; done) | (go_simp; rfl) | (go_simp; omega)
          · have ho2 := ho; simp only [List.getElem?_toArray, List.getElem?_cons_succ, List.getElem?_cons_zero, Option.some.injEq] at ho2; subst ho2
            refine growI_val (I := (fun d u => (d 11 = false → MW w (.slice (some ⟨gb, off, none⟩) L.length c) K l ks (.slice ca cn0 ccp) (.slice ka ks.length kc) u) ∧ (d 13 = false → Blk u (w.heap.size + 1 + 1) 25 [.slice ca cn0 ccp, .slice ka ks.length kc]) ∧ (d 13 = true → d 11 = true ∧ ∃ v1, MW w (.slice (some ⟨gb, off, none⟩) L.length c) K (l ++ [(⟨ci, cm, ck, cu, ⟨du, dn, ds⟩⟩ : Co)]) ks v1 (.slice ka ks.length kc) u) ∧ (d 11 = true → d 1 = true))) (X := (fun d u v => d 11 = true → ∀ x, (fun v u => MA w (.slice (some ⟨gb, off, none⟩) L.length c) K (l ++ [(⟨ci, cm, ck, cu, ⟨du, dn, ds⟩⟩ : Co)]) ks (.slice ka ks.length kc) v u) x u → (fun v u => MA w (.slice (some ⟨gb, off, none⟩) L.length c) K (l ++ [(⟨ci, cm, ck, cu, ⟨du, dn, ds⟩⟩ : Co)]) ks (.slice ka ks.length kc) v u) x v)) (d := fd) (a := a) (w := w1) (.int .i64 (k : Nat)) w1 ho rfl ?_ ((fun u => Touch.refl _ _) w1) ⟨fun h => (hI.1 (by simpa [upd] using h)).later (Below.refl _ _), fun h => (hI.2.1 (by simpa [upd] using h)).later (Below.refl _ _), fun h => have h' := hI.2.2.1 (by simpa [upd] using h); ⟨by have := h'.1; simp [upd, this], h'.2.elim fun v1 hv => ⟨v1, hv.later (Below.refl _ _)⟩⟩, fun h => by have h1 := hI.2.2.2 (by simpa [upd] using h); simp [upd, h1]⟩ (fun _ v hv => hv.later (Below.refl _ _)) rfl
            unfold execOp
            simp only [List.map_toArray, List.map_cons, List.map_nil, e5, ec]
            first | rfl | (go_simp; done) | (go_simp; rfl) | (go_simp; omega)
          · have ho2 := ho; simp only [List.getElem?_toArray, List.getElem?_cons_succ, List.getElem?_cons_zero, Option.some.injEq] at ho2; subst ho2
            have d0 : a.eval (.tmp 23) = .agg #[.int .i64 xa, .int .i64 xb, .int .i64 xc, .int .i64 xd, .int .i64 xe] := hdep ⟨6, .data⟩ (by simp) rfl
            have d1 : a.eval (.tmp 24) = .int .i64 n := hdep ⟨7, .data⟩ (by simp) rfl
            have d2 : a.eval (.tmp 25) = .int .i64 (k : Nat) := hdep ⟨8, .data⟩ (by simp) rfl
            refine growI_call (I := (fun d u => (d 11 = false → MW w (.slice (some ⟨gb, off, none⟩) L.length c) K l ks (.slice ca cn0 ccp) (.slice ka ks.length kc) u) ∧ (d 13 = false → Blk u (w.heap.size + 1 + 1) 25 [.slice ca cn0 ccp, .slice ka ks.length kc]) ∧ (d 13 = true → d 11 = true ∧ ∃ v1, MW w (.slice (some ⟨gb, off, none⟩) L.length c) K (l ++ [(⟨ci, cm, ck, cu, ⟨du, dn, ds⟩⟩ : Co)]) ks v1 (.slice ka ks.length kc) u) ∧ (d 11 = true → d 1 = true))) (X := (fun d u v => d 11 = true → ∀ x, (fun v u => MA w (.slice (some ⟨gb, off, none⟩) L.length c) K (l ++ [(⟨ci, cm, ck, cu, ⟨du, dn, ds⟩⟩ : Co)]) ks (.slice ka ks.length kc) v u) x u → (fun v u => MA w (.slice (some ⟨gb, off, none⟩) L.length c) K (l ++ [(⟨ci, cm, ck, cu, ⟨du, dn, ds⟩⟩ : Co)]) ks (.slice ka ks.length kc) v u) x v)) (d := fd) (a := a) (w := w1) 59 #[.agg #[.int .i64 xa, .int .i64 xb, .int .i64 xc, .int .i64 xd, .int .i64 xe], .int .i64 n, .int .i64 (k : Nat)] ho rfl ?_ ((HC.out w1).mono ?_)
            · unfold execOp resolve
              simp only [List.map_toArray, List.map_cons, List.map_nil, d0, d1, d2, ec]
              rfl
            · rintro e c1 ⟨rfl, hb2⟩
              exact ⟨_, rfl, rfl, (Touch.of_below hb2), ⟨fun h => (hI.1 (by simpa [upd] using h)).later hb2, fun h => (hI.2.1 (by simpa [upd] using h)).later hb2, fun h => have h' := hI.2.2.1 (by simpa [upd] using h); ⟨by have := h'.1; simp [upd, this], h'.2.elim fun v1 hv => ⟨v1, hv.later hb2⟩⟩, fun h => by have h1 := hI.2.2.2 (by simpa [upd] using h); simp [upd, h1]⟩, (fun _ v hv => hv.later hb2)⟩
          · have ho2 := ho; simp only [List.getElem?_toArray, List.getElem?_cons_succ, List.getElem?_cons_zero, Option.some.injEq] at ho2; subst ho2
            have d0 : a.eval (.tmp 26) = .agg #[.int .i64 ci, .string cm, .int .i64 ck, .bool cu, .bool du, .int .i64 dn, .string ds] := hdep ⟨9, .data⟩ (by simp) rfl
            refine growI_val (I := (fun d u => (d 11 = false → MW w (.slice (some ⟨gb, off, none⟩) L.length c) K l ks (.slice ca cn0 ccp) (.slice ka ks.length kc) u) ∧ (d 13 = false → Blk u (w.heap.size + 1 + 1) 25 [.slice ca cn0 ccp, .slice ka ks.length kc]) ∧ (d 13 = true → d 11 = true ∧ ∃ v1, MW w (.slice (some ⟨gb, off, none⟩) L.length c) K (l ++ [(⟨ci, cm, ck, cu, ⟨du, dn, ds⟩⟩ : Co)]) ks v1 (.slice ka ks.length kc) u) ∧ (d 11 = true → d 1 = true))) (X := (fun d u v => d 11 = true → ∀ x, (fun v u => MA w (.slice (some ⟨gb, off, none⟩) L.length c) K (l ++ [(⟨ci, cm, ck, cu, ⟨du, dn, ds⟩⟩ : Co)]) ks (.slice ka ks.length kc) v u) x u → (fun v u => MA w (.slice (some ⟨gb, off, none⟩) L.length c) K (l ++ [(⟨ci, cm, ck, cu, ⟨du, dn, ds⟩⟩ : Co)]) ks (.slice ka ks.length kc) v u) x v)) (d := fd) (a := a) (w := w1) (.slice (some ⟨w1.heap.size, 0, none⟩) 1 1) (w1.alloc (.cells #[.int .i64 ci, .string cm, .int .i64 ck, .bool cu, .bool du, .int .i64 dn, .string ds] 36)) ho rfl ?_ ((Touch.of_below (box_new _ _))) ⟨fun h => (hI.1 (by simpa [upd] using h)).later (box_new _ _), fun h => (hI.2.1 (by simpa [upd] using h)).later (box_new _ _), fun h => have h' := hI.2.2.1 (by simpa [upd] using h); ⟨by have := h'.1; simp [upd, this], h'.2.elim fun v1 hv => ⟨v1, hv.later (box_new _ _)⟩⟩, fun h => by have h1 := hI.2.2.2 (by simpa [upd] using h); simp [upd, h1]⟩ (fun _ v hv => hv.later (box_new _ _)) ⟨_, rfl, hfr, Blk.new w1 36 #[.int .i64 ci, .string cm, .int .i64 ck, .bool cu, .bool du, .int .i64 dn, .string ds]⟩
            unfold execOp
            simp only [List.map_toArray, List.map_cons, List.map_nil, d0, ec]
            generalize a.eval = ev at *
            go_simp
          · have ho2 := ho; simp only [List.getElem?_toArray, List.getElem?_cons_succ, List.getElem?_cons_zero, Option.some.injEq] at ho2; subst ho2
            obtain ⟨b, d1, hbn, hbk⟩ : ∃ b, a.eval (.tmp 27) = .slice (some ⟨b, 0, none⟩) 1 1 ∧ ¬ (b = w.heap.size + 1 + 1 ∨ (Value.slice ca cn0 ccp).ownBlock = some b) ∧ Blk w1 b 36 [.int .i64 ci, .string cm, .int .i64 ck, .bool cu, .bool du, .int .i64 dn, .string ds] := hdep ⟨10, .data⟩ (by simp) rfl
            have d0 : a.eval (.tmp 18) = .slice ca cn0 ccp := hdep ⟨1, .data⟩ (by simp) rfl
            have hm1 := hI.1 hfd
            obtain ⟨v', w', hrun, ho1, hg1, _, _⟩ := Gn.run_app coL coY w1 22 (w.heap.size + 3) (.slice ca cn0 ccp) l hm1.oc (.slice (some ⟨b, 0, none⟩) 1 1) [(⟨ci, cm, ck, cu, ⟨du, dn, ds⟩⟩ : Co)] (rd_blk hbk) HLL.out hm1.sz
            have hma := hm1.app ho1 hg1
            refine growI_val (I := (fun d u => (d 11 = false → MW w (.slice (some ⟨gb, off, none⟩) L.length c) K l ks (.slice ca cn0 ccp) (.slice ka ks.length kc) u) ∧ (d 13 = false → Blk u (w.heap.size + 1 + 1) 25 [.slice ca cn0 ccp, .slice ka ks.length kc]) ∧ (d 13 = true → d 11 = true ∧ ∃ v1, MW w (.slice (some ⟨gb, off, none⟩) L.length c) K (l ++ [(⟨ci, cm, ck, cu, ⟨du, dn, ds⟩⟩ : Co)]) ks v1 (.slice ka ks.length kc) u) ∧ (d 11 = true → d 1 = true))) (X := (fun d u v => d 11 = true → ∀ x, (fun v u => MA w (.slice (some ⟨gb, off, none⟩) L.length c) K (l ++ [(⟨ci, cm, ck, cu, ⟨du, dn, ds⟩⟩ : Co)]) ks (.slice ka ks.length kc) v u) x u → (fun v u => MA w (.slice (some ⟨gb, off, none⟩) L.length c) K (l ++ [(⟨ci, cm, ck, cu, ⟨du, dn, ds⟩⟩ : Co)]) ks (.slice ka ks.length kc) v u) x v)) (d := fd) (a := a) (w := w1) v' w' ho rfl ?_ (Touch.of_grown hg1 (fun q hq => .inr hq)) ⟨fun h => absurd h (by simp [upd]), fun _ => hma.2, fun h => absurd (hI.2.2.1 (by simpa [upd] using h)).1 (by rw [hfd]; decide), fun _ => by have h1 : fd 1 = true := hdd ⟨1, .data⟩ (by simp) rfl; simp [upd, h1]⟩ (fun h => by rw [hfd] at h; cases h) hma.1
            unfold execOp resolve
            simp only [List.map_toArray, List.map_cons, List.map_nil, d0, d1, ec, invoke, builtin, Sem.run_bind, Sem.run_pure, Result.andThen_ok, hrun]
          · have ho2 := ho; simp only [List.getElem?_toArray, List.getElem?_cons_succ, List.getElem?_cons_zero, Option.some.injEq] at ho2; subst ho2
            refine growI_val (I := (fun d u => (d 11 = false → MW w (.slice (some ⟨gb, off, none⟩) L.length c) K l ks (.slice ca cn0 ccp) (.slice ka ks.length kc) u) ∧ (d 13 = false → Blk u (w.heap.size + 1 + 1) 25 [.slice ca cn0 ccp, .slice ka ks.length kc]) ∧ (d 13 = true → d 11 = true ∧ ∃ v1, MW w (.slice (some ⟨gb, off, none⟩) L.length c) K (l ++ [(⟨ci, cm, ck, cu, ⟨du, dn, ds⟩⟩ : Co)]) ks v1 (.slice ka ks.length kc) u) ∧ (d 11 = true → d 1 = true))) (X := (fun d u v => d 11 = true → ∀ x, (fun v u => MA w (.slice (some ⟨gb, off, none⟩) L.length c) K (l ++ [(⟨ci, cm, ck, cu, ⟨du, dn, ds⟩⟩ : Co)]) ks (.slice ka ks.length kc) v u) x u → (fun v u => MA w (.slice (some ⟨gb, off, none⟩) L.length c) K (l ++ [(⟨ci, cm, ck, cu, ⟨du, dn, ds⟩⟩ : Co)]) ks (.slice ka ks.length kc) v u) x v)) (d := fd) (a := a) (w := w1) (.pointer (some ⟨w.heap.size + 1 + 1, 0, none⟩)) w1 ho rfl ?_ ((fun u => Touch.refl _ _) w1) ⟨fun h => (hI.1 (by simpa [upd] using h)).later (Below.refl _ _), fun h => (hI.2.1 (by simpa [upd] using h)).later (Below.refl _ _), fun h => have h' := hI.2.2.1 (by simpa [upd] using h); ⟨by have := h'.1; simp [upd, this], h'.2.elim fun v1 hv => ⟨v1, hv.later (Below.refl _ _)⟩⟩, fun h => by have h1 := hI.2.2.2 (by simpa [upd] using h); simp [upd, h1]⟩ (fun _ v hv => hv.later (Below.refl _ _)) rfl
            unfold execOp
            simp only [List.map_toArray, List.map_cons, List.map_nil, e3, ec]
            first | rfl | (go_simp; done) | (go_simp; rfl) | (go_simp; omega)
          · have ho2 := ho; simp only [List.getElem?_toArray, List.getElem?_cons_succ, List.getElem?_cons_zero, Option.some.injEq] at ho2; subst ho2
            have hd11 : fd 11 = true := hdd ⟨11, .data⟩ (by simp) rfl
            obtain ⟨v1, d1, hma⟩ : ∃ v1, a.eval (.tmp 28) = v1 ∧ MA w (.slice (some ⟨gb, off, none⟩) L.length c) K (l ++ [(⟨ci, cm, ck, cu, ⟨du, dn, ds⟩⟩ : Co)]) ks (.slice ka ks.length kc) v1 w1 := ⟨_, rfl, hdep ⟨11, .data⟩ (by simp) rfl⟩
            have d0 : a.eval (.tmp 29) = .pointer (some ⟨w.heap.size + 1 + 1, 0, none⟩) := hdep ⟨12, .data⟩ (by simp) rfl
            have hs1 := hI.2.1 hfd
            have q0 := hs1.cell 0
            have q2 := hs1.frozen 0
            simp only [List.getElem?_cons_succ, List.getElem?_cons_zero] at q0
            have hmw := hma.mw hs1
            obtain ⟨va, vc, rfl, _⟩ := Gn.Rd.form (RdK.of hma.oc)
            refine growI_skip (I := (fun d u => (d 11 = false → MW w (.slice (some ⟨gb, off, none⟩) L.length c) K l ks (.slice ca cn0 ccp) (.slice ka ks.length kc) u) ∧ (d 13 = false → Blk u (w.heap.size + 1 + 1) 25 [.slice ca cn0 ccp, .slice ka ks.length kc]) ∧ (d 13 = true → d 11 = true ∧ ∃ v1, MW w (.slice (some ⟨gb, off, none⟩) L.length c) K (l ++ [(⟨ci, cm, ck, cu, ⟨du, dn, ds⟩⟩ : Co)]) ks v1 (.slice ka ks.length kc) u) ∧ (d 11 = true → d 1 = true))) (X := (fun d u v => d 11 = true → ∀ x, (fun v u => MA w (.slice (some ⟨gb, off, none⟩) L.length c) K (l ++ [(⟨ci, cm, ck, cu, ⟨du, dn, ds⟩⟩ : Co)]) ks (.slice ka ks.length kc) v u) x u → (fun v u => MA w (.slice (some ⟨gb, off, none⟩) L.length c) K (l ++ [(⟨ci, cm, ck, cu, ⟨du, dn, ds⟩⟩ : Co)]) ks (.slice ka ks.length kc) v u) x v)) (d := fd) (a := a) (w := w1) (w1.setCell ⟨w.heap.size + 1 + 1, 0, none⟩ _) ho rfl rfl ?_ ((Touch.refl _ _).setCell (.inl rfl) _) ⟨fun h => absurd h (by simp [upd, hd11]), fun h => absurd h (by simp [upd]), fun _ => ⟨by simp [upd, hd11], _, hmw⟩, fun _ => by have h1 := hI.2.2.2 hd11; simp [upd, h1]⟩ (fun _ v hv => hv.put _) trivial
            unfold execOp
            simp only [d0, d1, ec]
            go_simp
        · intro a w1 hI hb hj
          obtain ⟨v1, hmw⟩ := (hI.2.2.1 (by decide)).2
          obtain ⟨va, vc, rfl, _⟩ := Gn.Rd.form (RdK.of hmw.oc)
          rw [HLN.out] at hmw
          exact ⟨va, vc, hmw⟩
        rintro ts w6 ⟨va, vc, hm6⟩
        simp only [fill, List.setIfInBounds_toArray, List.set_cons_succ, List.set_cons_zero]
        have HM6 := Lib.hid hm6
        have s0 := hm6.s.cell 0
        have s1 := hm6.s.cell 1
        have x1 := hm6.x.cell 1
        simp only [List.getElem?_cons_succ, List.getElem?_cons_zero] at s0 s1 x1
        have hxk : (l ++ [(⟨ci, cm, ck, cu, ⟨du, dn, ds⟩⟩ : Co)])[k]? = some (⟨ci, cm, ck, cu, ⟨du, dn, ds⟩⟩ : Co) := by rw [← HL.out]; simp
        obtain ⟨gc, oc, rfl, p0, p1, p2, p3, p4, p5, p6⟩ := rdK_cells (RdK.of hm6.oc) (Below.refl _ _) hxk
        simp only at p0 p1 p2 p3 p4 p5 p6
        obtain ⟨q, hq⟩ : ∃ q, K % 65536 = q := ⟨_, rfl⟩
        have HB := Lib.hid (bringAt K 65536 q HK.out (by omega) (by omega) hq)
        have hq0 : 0 ≤ q := by omega
        have hq1 : q < 65536 := by omega
        have HKL : Hid (ks.length ≤ 8) := Lib.hid (Sc.okK_iff.1 HOK.out).1
        have HOC := Lib.hid (Sc.okK_col (⟨ci, cm, ck, cu, ⟨du, dn, ds⟩⟩ : Co) HOK.out)
        have HLC : Hid ((l ++ [(⟨ci, cm, ck, cu, ⟨du, dn, ds⟩⟩ : Co)]).length = k + 1) := Lib.hid HLN.out
        clear hm6 hxk hq HM HNS HC HMC HLL HLN x0 r0 r1 r2 r3 r4 p1 p2 p4 p5 p6 HR HX HIN
        by_cases hbit : bits BinOp.and IntKind.i64 (q / 2 ^ k) 1 = 1
        · cases cu with
          | true =>
            go_wp2_with fail
            ((with_reducible refine (HB.out _).mono ?_); rintro e w7 ⟨rfl, rfl⟩)
            go_wp2_with fail
            go_roundw
            case rel => exact ⟨k + 1, _, ks, ci, _, _, by omega, by omega, by go_num, rfl, HLC, HMC2, HOC, HM6⟩
            case measure => simp [intOf]; omega
          | false =>
            by_cases h8 : ks.length < 8
            · have h81 : (ks.length : Int) < 8 := by omega
              have bb := box_new w6 (.cells #[.int .i64 (k : Nat)] 3)
              have HMb := Lib.hid (HM6.out.later bb)
              have HRI := Lib.hid (rd_one 3 inL w6 (k : Int) #[.int .i64 (k : Nat)] rfl)
              have HNK : Hid (ks.length + ([(k : Int)] : List Int).length ≤ 100000000) := Lib.hid (by simp; omega)
              have HKY : Hid (Sc.okK (l ++ [(⟨ci, cm, ck, false, ⟨du, dn, ds⟩⟩ : Co)]) (ks ++ [(k : Int)]) = true) := Lib.hid (by
                have := Sc.okK_key (⟨ci, cm, ck, false, ⟨du, dn, ds⟩⟩ : Co) HOK.out rfl h8
                rw [HL.out] at this; exact this)
              clear bb
              go_wp2_with fail
              ((with_reducible refine (HB.out _).mono ?_); rintro e w7 ⟨rfl, rfl⟩)
              go_wp2_with (at_builtin
                           refine Gn.wpList_app inL inY rfl (.tmp 60) (.tmp 62) rfl (w.heap.size + 3) (.slice ka ks.length kc) ks rfl HMb.out.ok _ [(k : Int)] rfl HRI.out HNK.out HMb.out.sz ?_
                           intro v1 w1 ho1 hg1 hl1 hn1
                           obtain ⟨va1, vc1, hv1, _⟩ := Gn.Rd.form (RdI.of ho1)
                           rw [show (ks ++ [(k : Int)]).length = ks.length + 1 by simp] at hv1
                           subst hv1
                           have HA := Lib.hid (HMb.out.key ho1 hg1)
                           have q0 := HA.out.1.cell 0
                           have q1 := HA.out.1.cell 1
                           have q2 := HA.out.1.frozen 0
                           have q3 := HA.out.1.frozen 1
                           simp only [List.getElem?_cons_succ, List.getElem?_cons_zero] at q0 q1
                           clear ho1 hg1 hl1 hn1)
              go_roundw
              case rel => exact ⟨k + 1, _, ks ++ [(k : Int)], ci, _, _, by omega, by omega, by go_num, rfl, HLC, HMC2, HKY, Lib.hid HA.out.2⟩
              case measure => simp [intOf]; omega
            · have h81 : ¬ (ks.length : Int) < 8 := by omega
              go_wp2_with fail
              ((with_reducible refine (HB.out _).mono ?_); rintro e w7 ⟨rfl, rfl⟩)
              go_wp2_with fail
              go_roundw
              case rel => exact ⟨k + 1, _, ks, ci, _, _, by omega, by omega, by go_num, rfl, HLC, HMC2, HOC, HM6⟩
              case measure => simp [intOf]; omega
        · go_wp2_with fail
          ((with_reducible refine (HB.out _).mono ?_); rintro e w7 ⟨rfl, rfl⟩)
          go_wp2_with fail
          go_roundw
          case rel => exact ⟨k + 1, _, ks, ci, _, _, by omega, by omega, by go_num, rfl, HLC, HMC2, HOC, HM6⟩
          case measure => simp [intOf]; omega
      · have h161 : ¬ (k : Int) < 16 := by omega
        obtain ⟨ca, cc, rfl, _⟩ := Gn.Rd.form (RdK.of HM.out.oc)
        obtain ⟨ka, kc, rfl, _⟩ := Gn.Rd.form (RdI.of HM.out.ok)
        have hl16 : l.length ≤ 16 := by have := HL.out; omega
        by_cases h0 : l.length = 0
        · obtain rfl : l = [] := List.eq_nil_of_length_eq_zero h0
          have hk0 : ks = [] := by
            cases ks with
            | nil => rfl
            | cons y t => have := Sc.okK_range HOK.out y (by simp); simp at this; omega
          subst hk0
          have f0 := HM.out.r.cell 0
          have f1 := HM.out.r.cell 1
          have f2 := HM.out.r.frozen 0
          have f3 := HM.out.r.frozen 1
          have f4 := HM.out.s.frozen 0
          simp only [List.getElem?_cons_succ, List.getElem?_cons_zero, nilS, List.length_nil] at f0 f1 s0 s1 ⊢
          have b1 := box_new wr (.cells #[.int .i64 1, .string ⟨#[97]⟩, .int .i64 1, .bool false, .bool false, .int .i64 0, .string ⟨#[]⟩] 36)
          have HM1 := Lib.hid (HM.out.later b1)
          have HOL : Hid (OwnK (wr.alloc (.cells #[.int .i64 1, .string ⟨#[97]⟩, .int .i64 1, .bool false, .bool false, .int .i64 0, .string ⟨#[]⟩] 36)) (w.heap.size + 3) (.slice (some ⟨wr.heap.size, 0, none⟩) 1 1) [Sc.one]) := Lib.hid (Gn.Own.lit coL wr (w.heap.size + 3) [Sc.one] _ 1 1 rfl rfl rfl (by decide) HM.out.sz)
          obtain ⟨W1, HW1⟩ : ∃ W1, wr.alloc (.cells #[.int .i64 1, .string ⟨#[97]⟩, .int .i64 1, .bool false, .bool false, .int .i64 0, .string ⟨#[]⟩] 36) = W1 := ⟨_, rfl⟩
          rw [HW1] at HM1 HOL
          clear f0 f1 f2 f3 f4
          have y0 := HM1.out.s.cell 0
          have y1 := HM1.out.s.cell 1
          have f0 := HM1.out.r.cell 0
          have f1 := HM1.out.r.cell 1
          have f2 := HM1.out.r.frozen 0
          have f3 := HM1.out.r.frozen 1
          have f4 := HM1.out.s.frozen 0
          simp only [List.getElem?_cons_succ, List.getElem?_cons_zero, nilS, List.length_nil] at f0 f1 y0 y1
          have HM2 := Lib.hid (HM1.out.r.far (p := ⟨w.heap.size + 1 + 1, 0, none⟩) (by simp only; omega) (.slice (some ⟨wr.heap.size, 0, none⟩) 1 1))
          have HRS := Lib.hid (Blk.put (Blk.put HM2.out 0 (.slice (some ⟨wr.heap.size, 0, none⟩) 1 1)) 1 (.slice ka 0 kc))
          have HO1 := Lib.hid (own_far (own_far (own_far HOL.out (p := ⟨w.heap.size + 1 + 1, 0, none⟩) (by simp only; omega) (.slice (some ⟨wr.heap.size, 0, none⟩) 1 1)) (p := ⟨w.heap.size + 1, 0, none⟩) (by simp only; omega) (.slice (some ⟨wr.heap.size, 0, none⟩) 1 1)) (p := ⟨w.heap.size + 1, 1, none⟩) (by simp only; omega) (.slice ka 0 kc))
          have HO2 := Lib.hid (own_far (own_far (own_far HM1.out.ok (p := ⟨w.heap.size + 1 + 1, 0, none⟩) (by simp only; omega) (.slice (some ⟨wr.heap.size, 0, none⟩) 1 1)) (p := ⟨w.heap.size + 1, 0, none⟩) (by simp only; omega) (.slice (some ⟨wr.heap.size, 0, none⟩) 1 1)) (p := ⟨w.heap.size + 1, 1, none⟩) (by simp only; omega) (.slice ka 0 kc))
          have HBE := Lib.hid (((HM1.out.b.setCell (p := ⟨w.heap.size + 1 + 1, 0, none⟩) (by simp only; omega) (.slice (some ⟨wr.heap.size, 0, none⟩) 1 1)).setCell (p := ⟨w.heap.size + 1, 0, none⟩) (by simp only; omega) (.slice (some ⟨wr.heap.size, 0, none⟩) 1 1)).setCell (p := ⟨w.heap.size + 1, 1, none⟩) (by simp only; omega) (.slice ka 0 kc))
          clear b1 HMC HOK HR HX HIN HK HL HM HM1 HM2 HOL
          go_wp2_with fail
          exact bodyPost_ret (retS1 rfl _ _ (w.heap.size + 1) (.slice (some ⟨wr.heap.size, 0, none⟩) 1 1) (.slice ka 0 kc) rfl HRS.out) rfl ⟨_, _, [Sc.one], [], rfl, Sc.made_one, Gn.Own.lower HO1.out (by omega), Gn.Own.lower HO2.out (by omega), HBE.out⟩
        · have h00 : ¬ (l.length : Int) = 0 := by omega
          have f0 := HM.out.r.cell 0
          have f1 := HM.out.r.cell 1
          have f2 := HM.out.r.frozen 0
          have f3 := HM.out.r.frozen 1
          simp only [List.getElem?_cons_succ, List.getElem?_cons_zero, nilS] at f0 f1
          have HMD := Lib.hid (Sc.made_of HMC.out (by omega) hl16 HOK.out)
          have HRS := Lib.hid (Blk.put (Blk.put HM.out.r 0 (.slice ca l.length cc)) 1 (.slice ka ks.length kc))
          have HO1 := Lib.hid (own_far (own_far HM.out.oc (p := ⟨w.heap.size + 1, 0, none⟩) (by simp only; omega) (.slice ca l.length cc)) (p := ⟨w.heap.size + 1, 1, none⟩) (by simp only; omega) (.slice ka ks.length kc))
          have HO2 := Lib.hid (own_far (own_far HM.out.ok (p := ⟨w.heap.size + 1, 0, none⟩) (by simp only; omega) (.slice ca l.length cc)) (p := ⟨w.heap.size + 1, 1, none⟩) (by simp only; omega) (.slice ka ks.length kc))
          have HBE := Lib.hid ((HM.out.b.setCell (p := ⟨w.heap.size + 1, 0, none⟩) (by simp only; omega) (.slice ca l.length cc)).setCell (p := ⟨w.heap.size + 1, 1, none⟩) (by simp only; omega) (.slice ka ks.length kc))
          clear HMC HOK HR HX HIN HK HM HL
          go_wp2_with fail
          exact bodyPost_ret (retS1 rfl _ _ (w.heap.size + 1) (.slice ca l.length cc) (.slice ka ks.length kc) rfl HRS.out) rfl ⟨_, _, l, ks, rfl, HMD.out, Gn.Own.lower HO1.out (by omega), Gn.Own.lower HO2.out (by omega), HBE.out⟩
    · have hlt1 : ¬ (k : Int) < L.length := by omega
      obtain ⟨ca, cc, rfl, _⟩ := Gn.Rd.form (RdK.of HM.out.oc)
      obtain ⟨ka, kc, rfl, _⟩ := Gn.Rd.form (RdI.of HM.out.ok)
      have hl16 : l.length ≤ 16 := by have := HL.out; omega
      by_cases h0 : l.length = 0
      · obtain rfl : l = [] := List.eq_nil_of_length_eq_zero h0
        have hk0 : ks = [] := by
          cases ks with
          | nil => rfl
          | cons y t => have := Sc.okK_range HOK.out y (by simp); simp at this; omega
        subst hk0
        have f0 := HM.out.r.cell 0
        have f1 := HM.out.r.cell 1
        have f2 := HM.out.r.frozen 0
        have f3 := HM.out.r.frozen 1
        have f4 := HM.out.s.frozen 0
        simp only [List.getElem?_cons_succ, List.getElem?_cons_zero, nilS, List.length_nil] at f0 f1 s0 s1 ⊢
        have b1 := box_new wr (.cells #[.int .i64 1, .string ⟨#[97]⟩, .int .i64 1, .bool false, .bool false, .int .i64 0, .string ⟨#[]⟩] 36)
        have HM1 := Lib.hid (HM.out.later b1)
        have HOL : Hid (OwnK (wr.alloc (.cells #[.int .i64 1, .string ⟨#[97]⟩, .int .i64 1, .bool false, .bool false, .int .i64 0, .string ⟨#[]⟩] 36)) (w.heap.size + 3) (.slice (some ⟨wr.heap.size, 0, none⟩) 1 1) [Sc.one]) := Lib.hid (Gn.Own.lit coL wr (w.heap.size + 3) [Sc.one] _ 1 1 rfl rfl rfl (by decide) HM.out.sz)
        obtain ⟨W1, HW1⟩ : ∃ W1, wr.alloc (.cells #[.int .i64 1, .string ⟨#[97]⟩, .int .i64 1, .bool false, .bool false, .int .i64 0, .string ⟨#[]⟩] 36) = W1 := ⟨_, rfl⟩
        rw [HW1] at HM1 HOL
        clear f0 f1 f2 f3 f4
        have y0 := HM1.out.s.cell 0
        have y1 := HM1.out.s.cell 1
        have f0 := HM1.out.r.cell 0
        have f1 := HM1.out.r.cell 1
        have f2 := HM1.out.r.frozen 0
        have f3 := HM1.out.r.frozen 1
        have f4 := HM1.out.s.frozen 0
        simp only [List.getElem?_cons_succ, List.getElem?_cons_zero, nilS, List.length_nil] at f0 f1 y0 y1
        have HM2 := Lib.hid (HM1.out.r.far (p := ⟨w.heap.size + 1 + 1, 0, none⟩) (by simp only; omega) (.slice (some ⟨wr.heap.size, 0, none⟩) 1 1))
        have HRS := Lib.hid (Blk.put (Blk.put HM2.out 0 (.slice (some ⟨wr.heap.size, 0, none⟩) 1 1)) 1 (.slice ka 0 kc))
        have HO1 := Lib.hid (own_far (own_far (own_far HOL.out (p := ⟨w.heap.size + 1 + 1, 0, none⟩) (by simp only; omega) (.slice (some ⟨wr.heap.size, 0, none⟩) 1 1)) (p := ⟨w.heap.size + 1, 0, none⟩) (by simp only; omega) (.slice (some ⟨wr.heap.size, 0, none⟩) 1 1)) (p := ⟨w.heap.size + 1, 1, none⟩) (by simp only; omega) (.slice ka 0 kc))
        have HO2 := Lib.hid (own_far (own_far (own_far HM1.out.ok (p := ⟨w.heap.size + 1 + 1, 0, none⟩) (by simp only; omega) (.slice (some ⟨wr.heap.size, 0, none⟩) 1 1)) (p := ⟨w.heap.size + 1, 0, none⟩) (by simp only; omega) (.slice (some ⟨wr.heap.size, 0, none⟩) 1 1)) (p := ⟨w.heap.size + 1, 1, none⟩) (by simp only; omega) (.slice ka 0 kc))
        have HBE := Lib.hid (((HM1.out.b.setCell (p := ⟨w.heap.size + 1 + 1, 0, none⟩) (by simp only; omega) (.slice (some ⟨wr.heap.size, 0, none⟩) 1 1)).setCell (p := ⟨w.heap.size + 1, 0, none⟩) (by simp only; omega) (.slice (some ⟨wr.heap.size, 0, none⟩) 1 1)).setCell (p := ⟨w.heap.size + 1, 1, none⟩) (by simp only; omega) (.slice ka 0 kc))
        clear b1 HMC HOK HR HX HIN HK HL HM HM1 HM2 HOL
        go_wp2_with fail
        exact bodyPost_ret (retS1 rfl _ _ (w.heap.size + 1) (.slice (some ⟨wr.heap.size, 0, none⟩) 1 1) (.slice ka 0 kc) rfl HRS.out) rfl ⟨_, _, [Sc.one], [], rfl, Sc.made_one, Gn.Own.lower HO1.out (by omega), Gn.Own.lower HO2.out (by omega), HBE.out⟩
      · have h00 : ¬ (l.length : Int) = 0 := by omega
        have f0 := HM.out.r.cell 0
        have f1 := HM.out.r.cell 1
        have f2 := HM.out.r.frozen 0
        have f3 := HM.out.r.frozen 1
        simp only [List.getElem?_cons_succ, List.getElem?_cons_zero, nilS] at f0 f1
        have HMD := Lib.hid (Sc.made_of HMC.out (by omega) hl16 HOK.out)
        have HRS := Lib.hid (Blk.put (Blk.put HM.out.r 0 (.slice ca l.length cc)) 1 (.slice ka ks.length kc))
        have HO1 := Lib.hid (own_far (own_far HM.out.oc (p := ⟨w.heap.size + 1, 0, none⟩) (by simp only; omega) (.slice ca l.length cc)) (p := ⟨w.heap.size + 1, 1, none⟩) (by simp only; omega) (.slice ka ks.length kc))
        have HO2 := Lib.hid (own_far (own_far HM.out.ok (p := ⟨w.heap.size + 1, 0, none⟩) (by simp only; omega) (.slice ca l.length cc)) (p := ⟨w.heap.size + 1, 1, none⟩) (by simp only; omega) (.slice ka ks.length kc))
        have HBE := Lib.hid ((HM.out.b.setCell (p := ⟨w.heap.size + 1, 0, none⟩) (by simp only; omega) (.slice ca l.length cc)).setCell (p := ⟨w.heap.size + 1, 1, none⟩) (by simp only; omega) (.slice ka ks.length kc))
        clear HMC HOK HR HX HIN HK HM HL
        go_wp2_with fail
        exact bodyPost_ret (retS1 rfl _ _ (w.heap.size + 1) (.slice ca l.length cc) (.slice ka ks.length kc) rfl HRS.out) rfl ⟨_, _, l, ks, rfl, HMD.out, Gn.Own.lower HO1.out (by omega), Gn.Own.lower HO2.out (by omega), HBE.out⟩
end Go.Proofs.YtjmphlboickhdaaGreatDoor

/- strings.Count of line feeds. -/
namespace Go.Proofs.YtjmphlboickhdaaGreatDoor
open Go.RowKit
set_option linter.unusedVariables false
set_option linter.unusedSimpArgs false
set_option maxRecDepth 100000

theorem count_bl (c : UInt8) : ∀ l : List UInt8, (l.map UInt8.toNat).count c.toNat = l.count c
  | [] => rfl
  | b :: l => by
    rw [List.map_cons, List.count_cons, List.count_cons, count_bl c l]
    by_cases h : b = c
    · subst h; simp
    · have : ¬ b.toNat = c.toNat := fun e => h (UInt8.toNat_inj.1 e)
      simp [h, this]
theorem cCount (s : ByteArray) (w : World) : Calls Tryz.prog 28 #[.string s, .string ⟨#[10]⟩] w fun e w' => e = .returned (.int .i64 ((bl s).count 10 : Nat)) ∧ w = w' :=
  (Tryz.strings_Count_one s 10 w).mono fun e w' ⟨h1, h2⟩ => ⟨by rw [h1]; unfold bl; rw [show (10 : Nat) = (10 : UInt8).toNat from rfl, count_bl]; rfl, h2.symm⟩
end Go.Proofs.YtjmphlboickhdaaGreatDoor
