/- QEva. -/
import Derived.Test.YtigcgkhcbmnboaaGreatDoorQScb
import Derived.OrdersIn
import Derived.ControlIn
import Derived.TacticsIn
import Derived.RangeFuncCalls
import Derived.Test.YtigcgkhcbmnboaaGreatDoorQSca
/- A drawn region, one obligation an operation: what its value is, is said by itself, of any world that stands in a relation (reflexive, transitive) to the one at the beginning; and an invariant says what the world is, by which operations have run (so that an append, or a store, may know that it has not run yet). Own text (gen/XGrowS's, with the invariant). -/
namespace Go.Proofs.YtigcgkhcbmnboaaGreatDoor
open Go Go.RowKit
set_option linter.unusedVariables false

def upd (d : Nat → Bool) (j : Nat) : Nat → Bool := fun i => if i = j then true else d i
structure GInvI (Lt : World → World → Prop) (I : (Nat → Bool) → World → Prop) (ops : Array Oper) (J : Nat → Value → World → Prop) (a0 : Act) (w0 : World) (listed : Array Bool) (a : Act) (w : World) : Prop where
  b : Lt w0 w
  size : a.tmps.size = a0.tmps.size
  defers : a.defers = a0.defers
  old : ∀ s, (∀ j, j < ops.size → dstOf ops j ≠ some s) → a.tmps[s]? = a0.tmps[s]?
  ls : listed.size = ops.size
  got : ∀ j, j < ops.size → listed.getD j false = true → J j (valOf ops a j) w
  inv : I (fun j => listed.getD j false) w
theorem GInvI.step {Lt : World → World → Prop} {I : (Nat → Bool) → World → Prop} {X : (Nat → Bool) → World → World → Prop} (ht : ∀ a b c, Lt a b → Lt b c → Lt a c) {ops : Array Oper} {J : Nat → Value → World → Prop} {a0 : Act} {w0 : World} (hB : growB ops a0.tmps.size = true) (hJ : ∀ (d : Nat → Bool) (j : Nat) (v : Value) (w w' : World), d j = true → J j v w → Lt w w' → X d w w' → J j v w')
    {listed : Array Bool} {a : Act} {w w' : World} {i : Nat} {o : Oper} {v : Value} (h : GInvI Lt I ops J a0 w0 listed a w) (ho : ops[i]? = some o) (hv : J i (match o.dst with | some _ => v | none => undef) w') (hb : Lt w w') (hI : I (upd (fun j => listed.getD j false) i) w') (hX : X (fun j => listed.getD j false) w w') :
    GInvI Lt I ops J a0 w0 (listed.setIfInBounds i true) (a.put o.dst v) w' := by
  have hi : i < ops.size := (Array.getElem?_eq_some_iff.1 ho).1
  obtain ⟨_, hd⟩ := growB_spec hB ho
  have hdi : dstOf ops i = o.dst := by unfold dstOf; rw [ho]; rfl
  refine ⟨ht _ _ _ h.b hb, ?_, ?_, fun s hs => ?_, by simp [h.ls], fun j hj hl => ?_, ?_⟩
  · unfold Act.put; split <;> simp [h.size]
  · unfold Act.put; split <;> exact h.defers
  · have hne := hs i hi
    rw [hdi] at hne
    unfold Act.put
    split
    · rename_i d hdd
      rw [hdd] at hne
      rw [Array.getElem?_setIfInBounds_ne (by intro e; exact hne (by rw [e]))]
      exact h.old s hs
    · exact h.old s hs
  · by_cases hij : j = i
    · subst hij
      unfold valOf
      rw [hdi]
      unfold Act.put
      cases hdd : o.dst with
      | none => rw [hdd] at hv; exact hv
      | some d =>
        rw [hdd] at hv
        have := (hd d hdd).1
        simp only
        rw [Array.getD_eq_getD_getElem?, Array.getElem?_setIfInBounds_self, if_pos (by rw [h.size]; exact this)]
        exact hv
    · have hl2 : listed.getD j false = true := by
        rw [Array.getD_eq_getD_getElem?, Array.getElem?_setIfInBounds_ne (Ne.symm hij)] at hl
        rw [Array.getD_eq_getD_getElem?]; exact hl
      have hg := hJ (fun j => listed.getD j false) _ _ _ _ hl2 (h.got j hj hl2) hb hX
      have e : valOf ops (a.put o.dst v) j = valOf ops a j := by
        unfold valOf
        cases hdj : dstOf ops j with
        | none => rfl
        | some s =>
          unfold Act.put
          cases hdd : o.dst with
          | none => rfl
          | some d =>
            have hne : d ≠ s := fun e => (hd d hdd).2 j hj hij (by rw [hdj, e])
            simp only
            rw [Array.getD_eq_getD_getElem?, Array.getElem?_setIfInBounds_ne hne, ← Array.getD_eq_getD_getElem?]
      rw [e]; exact hg
  · have e : (fun j => (listed.setIfInBounds i true).getD j false) = upd (fun j => listed.getD j false) i := by
      funext j
      unfold upd
      by_cases hji : j = i
      · subst hji
        rw [if_pos rfl, Array.getD_eq_getD_getElem?, Array.getElem?_setIfInBounds_self, if_pos (by rw [h.ls]; exact hi)]; rfl
      · rw [if_neg hji, Array.getD_eq_getD_getElem?, Array.getElem?_setIfInBounds_ne (fun e => hji e.symm), ← Array.getD_eq_getD_getElem?]
    rw [e]; exact hI
/-- **A drawn region.** -/
theorem wpAny_growI {Lt : World → World → Prop} {I : (Nat → Bool) → World → Prop} {X : (Nat → Bool) → World → World → Prop} (ht : ∀ a b c, Lt a b → Lt b c → Lt a c) {P : Program} {ops : Array Oper} {Q : Exit → Act → World → Prop} {J : Nat → Value → World → Prop} {a0 : Act} {w0 : World} (hB : growB ops a0.tmps.size = true) (hJ : ∀ (d : Nat → Bool) (j : Nat) (v : Value) (w w' : World), d j = true → J j v w → Lt w w' → X d w w' → J j v w')
    (hstep : ∀ (d : Nat → Bool) (j : Nat) (o : Oper) (a : Act) (w : World), ops[j]? = some o → d j = false → (∀ e ∈ o.after, Region.binds .any e = true → d e.on = true) → I d w → Lt w0 w → a.tmps.size = a0.tmps.size → (∀ s, (∀ j, j < ops.size → dstOf ops j ≠ some s) → a.tmps[s]? = a0.tmps[s]?) →
      (∀ e ∈ o.after, Region.binds .any e = true → J e.on (valOf ops a e.on) w) → wpOp P ops Q j (fun a' w' => ∃ v, a' = a.put o.dst v ∧ J j (match o.dst with | some _ => v | none => undef) w' ∧ Lt w w' ∧ I (upd d j) w' ∧ X d w w') a w)
    (hend : ∀ a w, I (fun j => decide (j < ops.size)) w → Lt w0 w → a.defers = a0.defers → a.tmps.size = a0.tmps.size → (∀ s, (∀ j, j < ops.size → dstOf ops j ≠ some s) → a.tmps[s]? = a0.tmps[s]?) → (∀ j, j < ops.size → J j (valOf ops a j) w) → Q .normal a w) :
    ∀ (fuel : Nat) (listed : Array Bool) (a : Act) (w : World), GInvI Lt I ops J a0 w0 listed a w → listed.toList.count false = fuel → wpAny P .any ops Q fuel listed a w
  | fuel, listed, a, w, inv, hc => by
    have fin : Region.ready .any ops listed = [] → Q .normal a w := fun h0 => by
      have hall : ∀ j, j < ops.size → listed.getD j false = true := by
        intro j
        induction j using Nat.strongRecOn with
        | _ j ih =>
          intro hj
          cases hl : listed.getD j false with
          | true => rfl
          | false =>
            exfalso
            obtain ⟨o, ho⟩ : ∃ o, ops[j]? = some o := ⟨_, Array.getElem?_eq_getElem hj⟩
            have : j ∈ Region.ready .any ops listed := mem_ready.2 ⟨by
              rw [Array.getD_eq_getD_getElem?] at hl ⊢
              rw [Array.getElem?_eq_getElem (by rw [inv.ls]; exact hj)] at hl ⊢
              exact hl, o, ho, fun e he hb => ih e.on ((growB_spec hB ho).1 e he hb) (by have := (growB_spec hB ho).1 e he hb; omega)⟩
            rw [h0] at this; cases this
      exact hend a w (by
        have e : (fun j => listed.getD j false) = fun j => decide (j < ops.size) := by
          funext j
          by_cases hj : j < ops.size
          · simp only [hall j hj, hj, decide_true]
          · rw [Array.getD_eq_getD_getElem?, Array.getElem?_eq_none (by rw [inv.ls]; omega)]
            simp [hj]
        rw [← e]; exact inv.inv) inv.b inv.defers inv.size inv.old fun j hj => inv.got j hj (hall j hj)
    cases fuel with
    | zero =>
      refine ⟨?_, ?_⟩
      · cases hr : Region.ready .any ops listed with
        | nil => rfl
        | cons i t =>
          exfalso
          have hi : i ∈ Region.ready .any ops listed := by rw [hr]; exact List.mem_cons_self ..
          obtain ⟨hun, o, ho, _⟩ := mem_ready.1 hi
          have hlt : i < listed.size := by rw [inv.ls]; exact (Array.getElem?_eq_some_iff.1 ho).1
          have := List.count_eq_zero.1 hc
          rw [Array.getD_eq_getD_getElem?, Array.getElem?_eq_getElem hlt] at hun
          exact this (by rw [← show listed[i] = false from hun]; exact Array.getElem_mem_toList hlt)
      · refine fin ?_
        cases hr : Region.ready .any ops listed with
        | nil => rfl
        | cons i t =>
          exfalso
          have hi : i ∈ Region.ready .any ops listed := by rw [hr]; exact List.mem_cons_self ..
          obtain ⟨hun, o, ho, _⟩ := mem_ready.1 hi
          have hlt : i < listed.size := by rw [inv.ls]; exact (Array.getElem?_eq_some_iff.1 ho).1
          have := List.count_eq_zero.1 hc
          rw [Array.getD_eq_getD_getElem?, Array.getElem?_eq_getElem hlt] at hun
          exact this (by rw [← show listed[i] = false from hun]; exact Array.getElem_mem_toList hlt)
    | succ f =>
      refine ⟨fin, fun i hi => ?_⟩
      obtain ⟨hun, o, ho, hdep⟩ := mem_ready.1 hi
      have hlt : i < listed.size := by rw [inv.ls]; exact (Array.getElem?_eq_some_iff.1 ho).1
      refine wpOp_mono (fun a' w' hh => ?_) (hstep _ i o a w ho (by rw [Array.getD_eq_getD_getElem?] at hun ⊢; rw [Array.getElem?_eq_getElem hlt] at hun ⊢; exact hun) hdep inv.inv inv.b inv.size inv.old fun e he hb => inv.got e.on (by have := (growB_spec hB ho).1 e he hb; have := (Array.getElem?_eq_some_iff.1 ho).1; omega) (hdep e he hb))
      obtain ⟨v, rfl, hv, hb, hI, hX⟩ := hh
      have hcount : (listed.setIfInBounds i true).toList.count false = f := by
        obtain ⟨l⟩ := listed
        simp only [List.size_toArray] at hlt
        simp [hlt] at hun
        simp only [List.setIfInBounds_toArray]
        have hm : l.count false ≠ 0 := by
          intro h0
          exact List.count_eq_zero.1 h0 (hun ▸ List.getElem_mem hlt)
        simp only at hc
        rw [List.count_set hlt, hun]
        simp
        omega
      exact wpAny_growI ht hB hJ hstep hend f _ _ _ (inv.step ht hB hJ ho hv hb hI hX) hcount
theorem region_growI (Lt : World → World → Prop) (I : (Nat → Bool) → World → Prop) (X : (Nat → Bool) → World → World → Prop) (hr : ∀ w, Lt w w) (ht : ∀ a b c, Lt a b → Lt b c → Lt a c) {P : Program} {id : Nat} {ops : Array Oper} {Q : Exit → Act → World → Prop} (J : Nat → Value → World → Prop) {a0 : Act} {w : World} (hm : P.follows .mixedOrders = true) (hB : growB ops a0.tmps.size = true) (hJ : ∀ (d : Nat → Bool) (j : Nat) (v : Value) (w w' : World), d j = true → J j v w → Lt w w' → X d w w' → J j v w') (h0 : I (fun _ => false) w.drew)
    (hstep : ∀ (d : Nat → Bool) (j : Nat) (o : Oper) (a : Act) (w1 : World), ops[j]? = some o → d j = false → (∀ e ∈ o.after, Region.binds .any e = true → d e.on = true) → I d w1 → Lt w.drew w1 → a.tmps.size = a0.tmps.size → (∀ s, (∀ j, j < ops.size → dstOf ops j ≠ some s) → a.tmps[s]? = a0.tmps[s]?) →
      (∀ e ∈ o.after, Region.binds .any e = true → J e.on (valOf ops a e.on) w1) → wpOp P ops Q j (fun a' w' => ∃ v, a' = a.put o.dst v ∧ J j (match o.dst with | some _ => v | none => undef) w' ∧ Lt w1 w' ∧ I (upd d j) w' ∧ X d w1 w') a w1)
    (hend : ∀ a w1, I (fun j => decide (j < ops.size)) w1 → Lt w.drew w1 → a.defers = a0.defers → a.tmps.size = a0.tmps.size → (∀ s, (∀ j, j < ops.size → dstOf ops j ≠ some s) → a.tmps[s]? = a0.tmps[s]?) → (∀ j, j < ops.size → J j (valOf ops a j) w1) → Q .normal a w1) : (Code.region id ops true).wp P Q a0 w := by
  refine wp_region_any hm ?_
  exact wpAny_growI ht (w0 := w.drew) hB hJ hstep hend _ _ _ _ ⟨hr _, rfl, rfl, fun s _ => rfl, by simp, fun j hj hl => by rw [Array.getD_eq_getD_getElem?] at hl; simp [hj] at hl, by
    have e : (fun j => (Array.replicate ops.size false).getD j false) = fun _ => false := by
      funext j
      rw [Array.getD_eq_getD_getElem?, Array.getElem?_replicate]
      split <;> rfl
    rw [e]; exact h0⟩ (by simp)
/-- An operation that gives a value. -/
theorem growI_val {Lt : World → World → Prop} {I : (Nat → Bool) → World → Prop} {X : (Nat → Bool) → World → World → Prop} {d : Nat → Bool} {P : Program} {ops : Array Oper} {Q : Exit → Act → World → Prop} {J : Nat → Value → World → Prop} {a : Act} {w : World} {j : Nat} {o : Oper} (v : Value) (w' : World) (ho : ops[j]? = some o) (hw : Region.wanted o (yielded ops a.tmps) = true)
    (hr : (execOp a.eval o).run P w = .ok (.value v) w') (hb : Lt w w') (hI : I (upd d j) w') (hX : X d w w') (hJ : J j (match o.dst with | some _ => v | none => undef) w') : wpOp P ops Q j (fun a' w' => ∃ v, a' = a.put o.dst v ∧ J j (match o.dst with | some _ => v | none => undef) w' ∧ Lt w w' ∧ I (upd d j) w' ∧ X d w w') a w := by
  unfold wpOp
  rw [ho]
  simp only [hw, if_true]
  left
  unfold Oper.wp
  rw [hr]
  exact ⟨v, rfl, hJ, hb, hI, hX⟩
/-- An operation that writes memory. -/
theorem growI_skip {Lt : World → World → Prop} {I : (Nat → Bool) → World → Prop} {X : (Nat → Bool) → World → World → Prop} {d : Nat → Bool} {P : Program} {ops : Array Oper} {Q : Exit → Act → World → Prop} {J : Nat → Value → World → Prop} {a : Act} {w : World} {j : Nat} {o : Oper} (w' : World) (ho : ops[j]? = some o) (hw : Region.wanted o (yielded ops a.tmps) = true)
    (hn : o.dst = none) (hr : (execOp a.eval o).run P w = .ok .skip w') (hb : Lt w w') (hI : I (upd d j) w') (hX : X d w w') (hJ : J j undef w') : wpOp P ops Q j (fun a' w' => ∃ v, a' = a.put o.dst v ∧ J j (match o.dst with | some _ => v | none => undef) w' ∧ Lt w w' ∧ I (upd d j) w' ∧ X d w w') a w := by
  unfold wpOp
  rw [ho]
  simp only [hw, if_true]
  left
  unfold Oper.wp
  rw [hr]
  exact ⟨undef, by unfold Act.put; rw [hn], by rw [hn]; exact hJ, hb, hI, hX⟩
/-- An operation that calls. -/
theorem growI_call {Lt : World → World → Prop} {I : (Nat → Bool) → World → Prop} {X : (Nat → Bool) → World → World → Prop} {d : Nat → Bool} {P : Program} {ops : Array Oper} {Q : Exit → Act → World → Prop} {J : Nat → Value → World → Prop} {a : Act} {w : World} {j : Nat} {o : Oper} (f : FuncId) (args : Array Value) (ho : ops[j]? = some o) (hw : Region.wanted o (yielded ops a.tmps) = true)
    (hr : (execOp a.eval o).run P w = .ok (.enter f args) w) (hc : Calls P f args w fun e w' => ∃ v, e = .returned v ∧ J j (match o.dst with | some _ => v | none => undef) w' ∧ Lt w w' ∧ I (upd d j) w' ∧ X d w w') : wpOp P ops Q j (fun a' w' => ∃ v, a' = a.put o.dst v ∧ J j (match o.dst with | some _ => v | none => undef) w' ∧ Lt w w' ∧ I (upd d j) w' ∧ X d w w') a w := by
  unfold wpOp
  rw [ho]
  simp only [hw, if_true]
  left
  unfold Oper.wp
  rw [hr, Oper.upon_enter]
  refine Calls.mono hc fun e w' ⟨v, he, h1, h2, h3, h4⟩ => ?_
  subst he
  exact ⟨v, rfl, h1, h2, h3, h4⟩
/-- An operation that is not wanted. -/
theorem growI_not {Lt : World → World → Prop} {I : (Nat → Bool) → World → Prop} {X : (Nat → Bool) → World → World → Prop} {d : Nat → Bool} {P : Program} {ops : Array Oper} {Q : Exit → Act → World → Prop} {J : Nat → Value → World → Prop} {a : Act} {w : World} {j : Nat} {o : Oper} (ho : ops[j]? = some o) (hw : Region.wanted o (yielded ops a.tmps) = false)
    (hb : Lt w w) (hI : I (upd d j) w) (hX : X d w w) (hJ : J j undef w) : wpOp P ops Q j (fun a' w' => ∃ v, a' = a.put o.dst v ∧ J j (match o.dst with | some _ => v | none => undef) w' ∧ Lt w w' ∧ I (upd d j) w' ∧ X d w w') a w := by
  unfold wpOp
  rw [ho]
  simp only [hw]
  exact ⟨undef, rfl, by cases o.dst <;> exact hJ, hb, hI, hX⟩
theorem region_growI_merge (Lt : World → World → Prop) (I : (Nat → Bool) → World → Prop) (X : (Nat → Bool) → World → World → Prop) (hr : ∀ w, Lt w w) (ht : ∀ a b c, Lt a b → Lt b c → Lt a c) {P : Program} {id : Nat} {ops : Array Oper} {Q : Exit → Act → World → Prop} (J : Nat → Value → World → Prop) (ws : List Nat) (R : Array Value → World → Prop) {a0 : Act} {w : World} (hm : P.follows .mixedOrders = true) (hB : growB ops a0.tmps.size = true)
    (hW : ((List.range ops.size).all fun j => match dstOf ops j with | some s => ws.contains s | none => true) = true) (hJ : ∀ (d : Nat → Bool) (j : Nat) (v : Value) (w w' : World), d j = true → J j v w → Lt w w' → X d w w' → J j v w') (h0 : I (fun _ => false) w.drew)
    (hstep : ∀ (Q : Exit → Act → World → Prop) (d : Nat → Bool) (j : Nat) (o : Oper) (a : Act) (w1 : World), ops[j]? = some o → d j = false → (∀ e ∈ o.after, Region.binds .any e = true → d e.on = true) → I d w1 → Lt w.drew w1 → a.tmps.size = a0.tmps.size → (∀ s, (∀ j, j < ops.size → dstOf ops j ≠ some s) → a.tmps[s]? = a0.tmps[s]?) →
      (∀ e ∈ o.after, Region.binds .any e = true → J e.on (valOf ops a e.on) w1) → wpOp P ops Q j (fun a' w' => ∃ v, a' = a.put o.dst v ∧ J j (match o.dst with | some _ => v | none => undef) w' ∧ Lt w1 w' ∧ I (upd d j) w' ∧ X d w1 w') a w1)
    (hend : ∀ a w1, I (fun j => decide (j < ops.size)) w1 → Lt w.drew w1 → (∀ j, j < ops.size → J j (valOf ops a j) w1) → R a.tmps w1)
    (k : ∀ (ts : Array Value) (w' : World), R ts w' → Q .normal ⟨fill ts ws a0.tmps, a0.defers⟩ w') : (Code.region id ops true).wp P Q a0 w := by
  refine region_merge ws R (region_growI Lt I X hr ht J hm hB hJ h0 (hstep _) fun a w1 hi hb hd hs hold hj => ⟨rfl, hd, hs, ?_, hend a w1 hi hb hj⟩) k
  apply Array.ext_getElem?
  intro i
  rw [blank_get, blank_get, hs]
  by_cases hi : i ∈ ws
  · by_cases h2 : i < a0.tmps.size
    · rw [if_pos ⟨hi, h2⟩, if_pos ⟨hi, h2⟩]
    · rw [if_neg (fun h => h2 h.2), if_neg (fun h => h2 h.2), Array.getElem?_eq_none (by omega), Array.getElem?_eq_none (by omega)]
  · rw [if_neg (fun h => hi h.1), if_neg (fun h => hi h.1)]
    refine hold i fun j hj e => hi ?_
    have := List.all_eq_true.1 hW j (List.mem_range.2 hj)
    rw [e] at this
    simpa using this
/-- What an operation's value is: a property that later worlds keep. -/
structure Spc (Lt : World → World → Prop) where
  f : Value → World → Prop
  keep : ∀ v w w', f v w → Lt w w' → f v w'
def Spc.eq {Lt : World → World → Prop} (u : Value) : Spc Lt := ⟨fun v _ => v = u, fun _ _ _ h _ => h⟩
def Spc.any {Lt : World → World → Prop} : Spc Lt := ⟨fun _ _ => True, fun _ _ _ _ _ => trivial⟩
def kjI {Lt : World → World → Prop} (L : Array (Spc Lt)) (j : Nat) (v : Value) (w : World) : Prop := (L.getD j Spc.any).f v w
theorem kjI_later {Lt : World → World → Prop} {X : (Nat → Bool) → World → World → Prop} {L : Array (Spc Lt)} : ∀ (d : Nat → Bool) (j : Nat) (v : Value) (w w' : World), d j = true → kjI L j v w → Lt w w' → X d w w' → kjI L j v w' := fun d j v w w' _ h hb _ => (L.getD j Spc.any).keep v w w' h hb
/-- One operation's value is said by F, which only steps behind it must keep (an append into what is owned). -/
def kjP {Lt : World → World → Prop} (p : Nat) (F : Value → World → Prop) (L : Array (Spc Lt)) (j : Nat) (v : Value) (w : World) : Prop := if j = p then F v w else kjI L j v w
theorem yieldedI {ops : Array Oper} {ts : Array Value} {j s : Nat} {b : Bool} (h : dstOf ops j = some s) (e : ts.getD s undef = .bool b) : yielded ops ts j = some b := by
  unfold yielded
  have h' : (ops[j]?).bind (·.dst) = some s := h
  rw [h']
  rw [Array.getD_eq_getD_getElem?] at e
  simp only [Option.bind_some]
  cases hh : ts[s]? with
  | none => rw [hh] at e; cases e
  | some v => rw [hh] at e; simp only [Option.getD_some] at e; rw [e]
theorem wantedI {o : Oper} {y : Nat → Option Bool} {j : Nat} {b : Bool} (h : o.guard = some (j, b)) (e : y j = some b) : Region.wanted o y = true := by
  unfold Region.wanted
  rw [h]
  simp [e]
theorem unwantedI {o : Oper} {y : Nat → Option Bool} {j : Nat} {b c : Bool} (h : o.guard = some (j, b)) (e : y j = some c) (hn : c ≠ b) : Region.wanted o y = false := by
  unfold Region.wanted
  rw [h]
  simp [e, hn]
end Go.Proofs.YtigcgkhcbmnboaaGreatDoor

/- gen/XGrowI's law for a drawn region in a round of a range over a function (inside the wide fence). Own text. -/
namespace Go.Proofs.YtigcgkhcbmnboaaGreatDoor
open Go Go.RowKit
set_option linter.unusedVariables false

theorem region_mergeR {l n : Nat} {P : Program} {c : Code} (ws : List Nat) (R : Array Value → World → Prop) {Q : Exit → Act → World → Prop} {a : Act} {w : World}
    (h : c.wpIn (Fence.wide.inRound l) n P (fun e a' w' => e = .normal ∧ a'.defers = a.defers ∧ a'.tmps.size = a.tmps.size ∧ blank ws a'.tmps = blank ws a.tmps ∧ R a'.tmps w') a w)
    (k : ∀ (ts : Array Value) (w' : World), R ts w' → Q .normal ⟨fill ts ws a.tmps, a.defers⟩ w') : c.wpIn (Fence.wide.inRound l) n P Q a w := by
  refine wpIn_mono h (fun e a' w' hh => ?_)
  obtain ⟨rfl, hd, hs, hb, hr⟩ := hh
  have := k a'.tmps w' hr
  rw [fill_of hb hs, ← hd] at this
  exact this
/-- **A drawn region.** -/
theorem wpAny_growR {l n : Nat} {Lt : World → World → Prop} {I : (Nat → Bool) → World → Prop} {X : (Nat → Bool) → World → World → Prop} (ht : ∀ a b c, Lt a b → Lt b c → Lt a c) {P : Program} {ops : Array Oper} {Q : Exit → Act → World → Prop} {J : Nat → Value → World → Prop} {a0 : Act} {w0 : World} (hB : growB ops a0.tmps.size = true) (hJ : ∀ (d : Nat → Bool) (j : Nat) (v : Value) (w w' : World), d j = true → J j v w → Lt w w' → X d w w' → J j v w')
    (hstep : ∀ (d : Nat → Bool) (j : Nat) (o : Oper) (a : Act) (w : World), ops[j]? = some o → d j = false → (∀ e ∈ o.after, Region.binds .any e = true → d e.on = true) → I d w → Lt w0 w → a.tmps.size = a0.tmps.size → (∀ s, (∀ j, j < ops.size → dstOf ops j ≠ some s) → a.tmps[s]? = a0.tmps[s]?) →
      (∀ e ∈ o.after, Region.binds .any e = true → J e.on (valOf ops a e.on) w) → wpOpIn (Fence.wide.inRound l) n P ops Q j (fun a' w' => ∃ v, a' = a.put o.dst v ∧ J j (match o.dst with | some _ => v | none => undef) w' ∧ Lt w w' ∧ I (upd d j) w' ∧ X d w w') a w)
    (hend : ∀ a w, I (fun j => decide (j < ops.size)) w → Lt w0 w → a.defers = a0.defers → a.tmps.size = a0.tmps.size → (∀ s, (∀ j, j < ops.size → dstOf ops j ≠ some s) → a.tmps[s]? = a0.tmps[s]?) → (∀ j, j < ops.size → J j (valOf ops a j) w) → Q .normal a w) :
    ∀ (fuel : Nat) (listed : Array Bool) (a : Act) (w : World), GInvI Lt I ops J a0 w0 listed a w → listed.toList.count false = fuel → wpAnyIn (Fence.wide.inRound l) n P .any ops Q fuel listed a w
  | fuel, listed, a, w, inv, hc => by
    have fin : Region.ready .any ops listed = [] → Q .normal a w := fun h0 => by
      have hall : ∀ j, j < ops.size → listed.getD j false = true := by
        intro j
        induction j using Nat.strongRecOn with
        | _ j ih =>
          intro hj
          cases hl : listed.getD j false with
          | true => rfl
          | false =>
            exfalso
            obtain ⟨o, ho⟩ : ∃ o, ops[j]? = some o := ⟨_, Array.getElem?_eq_getElem hj⟩
            have : j ∈ Region.ready .any ops listed := mem_ready.2 ⟨by
              rw [Array.getD_eq_getD_getElem?] at hl ⊢
              rw [Array.getElem?_eq_getElem (by rw [inv.ls]; exact hj)] at hl ⊢
              exact hl, o, ho, fun e he hb => ih e.on ((growB_spec hB ho).1 e he hb) (by have := (growB_spec hB ho).1 e he hb; omega)⟩
            rw [h0] at this; cases this
      exact hend a w (by
        have e : (fun j => listed.getD j false) = fun j => decide (j < ops.size) := by
          funext j
          by_cases hj : j < ops.size
          · simp only [hall j hj, hj, decide_true]
          · rw [Array.getD_eq_getD_getElem?, Array.getElem?_eq_none (by rw [inv.ls]; omega)]
            simp [hj]
        rw [← e]; exact inv.inv) inv.b inv.defers inv.size inv.old fun j hj => inv.got j hj (hall j hj)
    cases fuel with
    | zero =>
      refine ⟨?_, ?_⟩
      · cases hr : Region.ready .any ops listed with
        | nil => rfl
        | cons i t =>
          exfalso
          have hi : i ∈ Region.ready .any ops listed := by rw [hr]; exact List.mem_cons_self ..
          obtain ⟨hun, o, ho, _⟩ := mem_ready.1 hi
          have hlt : i < listed.size := by rw [inv.ls]; exact (Array.getElem?_eq_some_iff.1 ho).1
          have := List.count_eq_zero.1 hc
          rw [Array.getD_eq_getD_getElem?, Array.getElem?_eq_getElem hlt] at hun
          exact this (by rw [← show listed[i] = false from hun]; exact Array.getElem_mem_toList hlt)
      · refine fin ?_
        cases hr : Region.ready .any ops listed with
        | nil => rfl
        | cons i t =>
          exfalso
          have hi : i ∈ Region.ready .any ops listed := by rw [hr]; exact List.mem_cons_self ..
          obtain ⟨hun, o, ho, _⟩ := mem_ready.1 hi
          have hlt : i < listed.size := by rw [inv.ls]; exact (Array.getElem?_eq_some_iff.1 ho).1
          have := List.count_eq_zero.1 hc
          rw [Array.getD_eq_getD_getElem?, Array.getElem?_eq_getElem hlt] at hun
          exact this (by rw [← show listed[i] = false from hun]; exact Array.getElem_mem_toList hlt)
    | succ f =>
      refine ⟨fin, fun i hi => ?_⟩
      obtain ⟨hun, o, ho, hdep⟩ := mem_ready.1 hi
      have hlt : i < listed.size := by rw [inv.ls]; exact (Array.getElem?_eq_some_iff.1 ho).1
      refine wpOpIn_mono (fun a' w' hh => ?_) (hstep _ i o a w ho (by rw [Array.getD_eq_getD_getElem?] at hun ⊢; rw [Array.getElem?_eq_getElem hlt] at hun ⊢; exact hun) hdep inv.inv inv.b inv.size inv.old fun e he hb => inv.got e.on (by have := (growB_spec hB ho).1 e he hb; have := (Array.getElem?_eq_some_iff.1 ho).1; omega) (hdep e he hb))
      obtain ⟨v, rfl, hv, hb, hI, hX⟩ := hh
      have hcount : (listed.setIfInBounds i true).toList.count false = f := by
        obtain ⟨l⟩ := listed
        simp only [List.size_toArray] at hlt
        simp [hlt] at hun
        simp only [List.setIfInBounds_toArray]
        have hm : l.count false ≠ 0 := by
          intro h0
          exact List.count_eq_zero.1 h0 (hun ▸ List.getElem_mem hlt)
        simp only at hc
        rw [List.count_set hlt, hun]
        simp
        omega
      exact wpAny_growR ht hB hJ hstep hend f _ _ _ (inv.step ht hB hJ ho hv hb hI hX) hcount
theorem region_growR {l n : Nat} (Lt : World → World → Prop) (I : (Nat → Bool) → World → Prop) (X : (Nat → Bool) → World → World → Prop) (hr : ∀ w, Lt w w) (ht : ∀ a b c, Lt a b → Lt b c → Lt a c) {P : Program} {id : Nat} {ops : Array Oper} {Q : Exit → Act → World → Prop} (J : Nat → Value → World → Prop) {a0 : Act} {w : World} (hm : P.follows .mixedOrders = true) (hB : growB ops a0.tmps.size = true) (hJ : ∀ (d : Nat → Bool) (j : Nat) (v : Value) (w w' : World), d j = true → J j v w → Lt w w' → X d w w' → J j v w') (h0 : I (fun _ => false) w.drew)
    (hstep : ∀ (d : Nat → Bool) (j : Nat) (o : Oper) (a : Act) (w1 : World), ops[j]? = some o → d j = false → (∀ e ∈ o.after, Region.binds .any e = true → d e.on = true) → I d w1 → Lt w.drew w1 → a.tmps.size = a0.tmps.size → (∀ s, (∀ j, j < ops.size → dstOf ops j ≠ some s) → a.tmps[s]? = a0.tmps[s]?) →
      (∀ e ∈ o.after, Region.binds .any e = true → J e.on (valOf ops a e.on) w1) → wpOpIn (Fence.wide.inRound l) n P ops Q j (fun a' w' => ∃ v, a' = a.put o.dst v ∧ J j (match o.dst with | some _ => v | none => undef) w' ∧ Lt w1 w' ∧ I (upd d j) w' ∧ X d w1 w') a w1)
    (hend : ∀ a w1, I (fun j => decide (j < ops.size)) w1 → Lt w.drew w1 → a.defers = a0.defers → a.tmps.size = a0.tmps.size → (∀ s, (∀ j, j < ops.size → dstOf ops j ≠ some s) → a.tmps[s]? = a0.tmps[s]?) → (∀ j, j < ops.size → J j (valOf ops a j) w1) → Q .normal a w1) : (Code.region id ops true).wpIn (Fence.wide.inRound l) n P Q a0 w := by
  refine wpIn_region_any hm ?_
  exact wpAny_growR ht (w0 := w.drew) hB hJ hstep hend _ _ _ _ ⟨hr _, rfl, rfl, fun s _ => rfl, by simp, fun j hj hl => by rw [Array.getD_eq_getD_getElem?] at hl; simp [hj] at hl, by
    have e : (fun j => (Array.replicate ops.size false).getD j false) = fun _ => false := by
      funext j
      rw [Array.getD_eq_getD_getElem?, Array.getElem?_replicate]
      split <;> rfl
    rw [e]; exact h0⟩ (by simp)
/-- An operation that gives a value. -/
theorem growR_val {l n : Nat} {Lt : World → World → Prop} {I : (Nat → Bool) → World → Prop} {X : (Nat → Bool) → World → World → Prop} {d : Nat → Bool} {P : Program} {ops : Array Oper} {Q : Exit → Act → World → Prop} {J : Nat → Value → World → Prop} {a : Act} {w : World} {j : Nat} {o : Oper} (v : Value) (w' : World) (ho : ops[j]? = some o) (hw : Region.wanted o (yielded ops a.tmps) = true)
    (hr : (execOp a.eval o).run P w = .ok (.value v) w') (hb : Lt w w') (hI : I (upd d j) w') (hX : X d w w') (hJ : J j (match o.dst with | some _ => v | none => undef) w') (hd2 : ∀ c, o.op ≠ .defer c := by intro c hc; cases hc) : wpOpIn (Fence.wide.inRound l) n P ops Q j (fun a' w' => ∃ v, a' = a.put o.dst v ∧ J j (match o.dst with | some _ => v | none => undef) w' ∧ Lt w w' ∧ I (upd d j) w' ∧ X d w w') a w := by
  unfold wpOpIn
  rw [ho]
  simp only [hw, if_true]
  refine ⟨fun _ _ => trivial, ?_⟩
  rw [Oper.semAt_plain _ _ _ hd2, hr]
  exact ⟨v, rfl, hJ, hb, hI, hX⟩
/-- An operation that writes memory. -/
theorem growR_skip {l n : Nat} {Lt : World → World → Prop} {I : (Nat → Bool) → World → Prop} {X : (Nat → Bool) → World → World → Prop} {d : Nat → Bool} {P : Program} {ops : Array Oper} {Q : Exit → Act → World → Prop} {J : Nat → Value → World → Prop} {a : Act} {w : World} {j : Nat} {o : Oper} (w' : World) (ho : ops[j]? = some o) (hw : Region.wanted o (yielded ops a.tmps) = true)
    (hn : o.dst = none) (hr : (execOp a.eval o).run P w = .ok .skip w') (hb : Lt w w') (hI : I (upd d j) w') (hX : X d w w') (hJ : J j undef w') (hd2 : ∀ c, o.op ≠ .defer c := by intro c hc; cases hc) : wpOpIn (Fence.wide.inRound l) n P ops Q j (fun a' w' => ∃ v, a' = a.put o.dst v ∧ J j (match o.dst with | some _ => v | none => undef) w' ∧ Lt w w' ∧ I (upd d j) w' ∧ X d w w') a w := by
  unfold wpOpIn
  rw [ho]
  simp only [hw, if_true]
  refine ⟨fun _ _ => trivial, ?_⟩
  rw [Oper.semAt_plain _ _ _ hd2, hr]
  exact ⟨undef, by unfold Act.put; rw [hn], by rw [hn]; exact hJ, hb, hI, hX⟩
theorem region_growR_merge {l n : Nat} (Lt : World → World → Prop) (I : (Nat → Bool) → World → Prop) (X : (Nat → Bool) → World → World → Prop) (hr : ∀ w, Lt w w) (ht : ∀ a b c, Lt a b → Lt b c → Lt a c) {P : Program} {id : Nat} {ops : Array Oper} {Q : Exit → Act → World → Prop} (J : Nat → Value → World → Prop) (ws : List Nat) (R : Array Value → World → Prop) {a0 : Act} {w : World} (hm : P.follows .mixedOrders = true) (hB : growB ops a0.tmps.size = true)
    (hW : ((List.range ops.size).all fun j => match dstOf ops j with | some s => ws.contains s | none => true) = true) (hJ : ∀ (d : Nat → Bool) (j : Nat) (v : Value) (w w' : World), d j = true → J j v w → Lt w w' → X d w w' → J j v w') (h0 : I (fun _ => false) w.drew)
    (hstep : ∀ (Q : Exit → Act → World → Prop) (d : Nat → Bool) (j : Nat) (o : Oper) (a : Act) (w1 : World), ops[j]? = some o → d j = false → (∀ e ∈ o.after, Region.binds .any e = true → d e.on = true) → I d w1 → Lt w.drew w1 → a.tmps.size = a0.tmps.size → (∀ s, (∀ j, j < ops.size → dstOf ops j ≠ some s) → a.tmps[s]? = a0.tmps[s]?) →
      (∀ e ∈ o.after, Region.binds .any e = true → J e.on (valOf ops a e.on) w1) → wpOpIn (Fence.wide.inRound l) n P ops Q j (fun a' w' => ∃ v, a' = a.put o.dst v ∧ J j (match o.dst with | some _ => v | none => undef) w' ∧ Lt w1 w' ∧ I (upd d j) w' ∧ X d w1 w') a w1)
    (hend : ∀ a w1, I (fun j => decide (j < ops.size)) w1 → Lt w.drew w1 → (∀ j, j < ops.size → J j (valOf ops a j) w1) → R a.tmps w1)
    (k : ∀ (ts : Array Value) (w' : World), R ts w' → Q .normal ⟨fill ts ws a0.tmps, a0.defers⟩ w') : (Code.region id ops true).wpIn (Fence.wide.inRound l) n P Q a0 w := by
  refine region_mergeR ws R (region_growR Lt I X hr ht J hm hB hJ h0 (hstep _) fun a w1 hi hb hd hs hold hj => ⟨rfl, hd, hs, ?_, hend a w1 hi hb hj⟩) k
  apply Array.ext_getElem?
  intro i
  rw [blank_get, blank_get, hs]
  by_cases hi : i ∈ ws
  · by_cases h2 : i < a0.tmps.size
    · rw [if_pos ⟨hi, h2⟩, if_pos ⟨hi, h2⟩]
    · rw [if_neg (fun h => h2 h.2), if_neg (fun h => h2 h.2), Array.getElem?_eq_none (by omega), Array.getElem?_eq_none (by omega)]
  · rw [if_neg (fun h => hi h.1), if_neg (fun h => hi h.1)]
    refine hold i fun j hj e => hi ?_
    have := List.all_eq_true.1 hW j (List.mem_range.2 hj)
    rw [e] at this
    simpa using this
end Go.Proofs.YtigcgkhcbmnboaaGreatDoor

/- gen/XGrowI's law with an invariant that speaks of the slots, too (so that two variables that are made in either order may be told apart). Own text. -/
namespace Go.Proofs.YtigcgkhcbmnboaaGreatDoor
open Go Go.RowKit
set_option linter.unusedVariables false

structure GInvA (Lt : World → World → Prop) (I : (Nat → Bool) → Array Value → World → Prop) (ops : Array Oper) (J : Nat → Value → World → Prop) (a0 : Act) (w0 : World) (listed : Array Bool) (a : Act) (w : World) : Prop where
  b : Lt w0 w
  size : a.tmps.size = a0.tmps.size
  defers : a.defers = a0.defers
  old : ∀ s, (∀ j, j < ops.size → dstOf ops j ≠ some s) → a.tmps[s]? = a0.tmps[s]?
  ls : listed.size = ops.size
  got : ∀ j, j < ops.size → listed.getD j false = true → J j (valOf ops a j) w
  inv : I (fun j => listed.getD j false) a.tmps w
theorem GInvA.step {Lt : World → World → Prop} {I : (Nat → Bool) → Array Value → World → Prop} {X : (Nat → Bool) → World → World → Prop} (ht : ∀ a b c, Lt a b → Lt b c → Lt a c) {ops : Array Oper} {J : Nat → Value → World → Prop} {a0 : Act} {w0 : World} (hB : growB ops a0.tmps.size = true) (hJ : ∀ (d : Nat → Bool) (j : Nat) (v : Value) (w w' : World), d j = true → J j v w → Lt w w' → X d w w' → J j v w')
    {listed : Array Bool} {a : Act} {w w' : World} {i : Nat} {o : Oper} {v : Value} (h : GInvA Lt I ops J a0 w0 listed a w) (ho : ops[i]? = some o) (hv : J i (match o.dst with | some _ => v | none => undef) w') (hb : Lt w w') (hI : I (upd (fun j => listed.getD j false) i) (a.put o.dst v).tmps w') (hX : X (fun j => listed.getD j false) w w') :
    GInvA Lt I ops J a0 w0 (listed.setIfInBounds i true) (a.put o.dst v) w' := by
  have hi : i < ops.size := (Array.getElem?_eq_some_iff.1 ho).1
  obtain ⟨_, hd⟩ := growB_spec hB ho
  have hdi : dstOf ops i = o.dst := by unfold dstOf; rw [ho]; rfl
  refine ⟨ht _ _ _ h.b hb, ?_, ?_, fun s hs => ?_, by simp [h.ls], fun j hj hl => ?_, ?_⟩
  · unfold Act.put; split <;> simp [h.size]
  · unfold Act.put; split <;> exact h.defers
  · have hne := hs i hi
    rw [hdi] at hne
    unfold Act.put
    split
    · rename_i d hdd
      rw [hdd] at hne
      rw [Array.getElem?_setIfInBounds_ne (by intro e; exact hne (by rw [e]))]
      exact h.old s hs
    · exact h.old s hs
  · by_cases hij : j = i
    · subst hij
      unfold valOf
      rw [hdi]
      unfold Act.put
      cases hdd : o.dst with
      | none => rw [hdd] at hv; exact hv
      | some d =>
        rw [hdd] at hv
        have := (hd d hdd).1
        simp only
        rw [Array.getD_eq_getD_getElem?, Array.getElem?_setIfInBounds_self, if_pos (by rw [h.size]; exact this)]
        exact hv
    · have hl2 : listed.getD j false = true := by
        rw [Array.getD_eq_getD_getElem?, Array.getElem?_setIfInBounds_ne (Ne.symm hij)] at hl
        rw [Array.getD_eq_getD_getElem?]; exact hl
      have hg := hJ (fun j => listed.getD j false) _ _ _ _ hl2 (h.got j hj hl2) hb hX
      have e : valOf ops (a.put o.dst v) j = valOf ops a j := by
        unfold valOf
        cases hdj : dstOf ops j with
        | none => rfl
        | some s =>
          unfold Act.put
          cases hdd : o.dst with
          | none => rfl
          | some d =>
            have hne : d ≠ s := fun e => (hd d hdd).2 j hj hij (by rw [hdj, e])
            simp only
            rw [Array.getD_eq_getD_getElem?, Array.getElem?_setIfInBounds_ne hne, ← Array.getD_eq_getD_getElem?]
      rw [e]; exact hg
  · have e : (fun j => (listed.setIfInBounds i true).getD j false) = upd (fun j => listed.getD j false) i := by
      funext j
      unfold upd
      by_cases hji : j = i
      · subst hji
        rw [if_pos rfl, Array.getD_eq_getD_getElem?, Array.getElem?_setIfInBounds_self, if_pos (by rw [h.ls]; exact hi)]; rfl
      · rw [if_neg hji, Array.getD_eq_getD_getElem?, Array.getElem?_setIfInBounds_ne (fun e => hji e.symm), ← Array.getD_eq_getD_getElem?]
    rw [e]; exact hI
/-- **A drawn region.** -/
theorem wpAny_growA {Lt : World → World → Prop} {I : (Nat → Bool) → Array Value → World → Prop} {X : (Nat → Bool) → World → World → Prop} (ht : ∀ a b c, Lt a b → Lt b c → Lt a c) {P : Program} {ops : Array Oper} {Q : Exit → Act → World → Prop} {J : Nat → Value → World → Prop} {a0 : Act} {w0 : World} (hB : growB ops a0.tmps.size = true) (hJ : ∀ (d : Nat → Bool) (j : Nat) (v : Value) (w w' : World), d j = true → J j v w → Lt w w' → X d w w' → J j v w')
    (hstep : ∀ (d : Nat → Bool) (j : Nat) (o : Oper) (a : Act) (w : World), ops[j]? = some o → d j = false → (∀ e ∈ o.after, Region.binds .any e = true → d e.on = true) → I d a.tmps w → Lt w0 w → a.tmps.size = a0.tmps.size → (∀ s, (∀ j, j < ops.size → dstOf ops j ≠ some s) → a.tmps[s]? = a0.tmps[s]?) →
      (∀ e ∈ o.after, Region.binds .any e = true → J e.on (valOf ops a e.on) w) → wpOp P ops Q j (fun a' w' => ∃ v, a' = a.put o.dst v ∧ J j (match o.dst with | some _ => v | none => undef) w' ∧ Lt w w' ∧ I (upd d j) a'.tmps w' ∧ X d w w') a w)
    (hend : ∀ a w, I (fun j => decide (j < ops.size)) a.tmps w → Lt w0 w → a.defers = a0.defers → a.tmps.size = a0.tmps.size → (∀ s, (∀ j, j < ops.size → dstOf ops j ≠ some s) → a.tmps[s]? = a0.tmps[s]?) → (∀ j, j < ops.size → J j (valOf ops a j) w) → Q .normal a w) :
    ∀ (fuel : Nat) (listed : Array Bool) (a : Act) (w : World), GInvA Lt I ops J a0 w0 listed a w → listed.toList.count false = fuel → wpAny P .any ops Q fuel listed a w
  | fuel, listed, a, w, inv, hc => by
    have fin : Region.ready .any ops listed = [] → Q .normal a w := fun h0 => by
      have hall : ∀ j, j < ops.size → listed.getD j false = true := by
        intro j
        induction j using Nat.strongRecOn with
        | _ j ih =>
          intro hj
          cases hl : listed.getD j false with
          | true => rfl
          | false =>
            exfalso
            obtain ⟨o, ho⟩ : ∃ o, ops[j]? = some o := ⟨_, Array.getElem?_eq_getElem hj⟩
            have : j ∈ Region.ready .any ops listed := mem_ready.2 ⟨by
              rw [Array.getD_eq_getD_getElem?] at hl ⊢
              rw [Array.getElem?_eq_getElem (by rw [inv.ls]; exact hj)] at hl ⊢
              exact hl, o, ho, fun e he hb => ih e.on ((growB_spec hB ho).1 e he hb) (by have := (growB_spec hB ho).1 e he hb; omega)⟩
            rw [h0] at this; cases this
      exact hend a w (by
        have e : (fun j => listed.getD j false) = fun j => decide (j < ops.size) := by
          funext j
          by_cases hj : j < ops.size
          · simp only [hall j hj, hj, decide_true]
          · rw [Array.getD_eq_getD_getElem?, Array.getElem?_eq_none (by rw [inv.ls]; omega)]
            simp [hj]
        rw [← e]; exact inv.inv) inv.b inv.defers inv.size inv.old fun j hj => inv.got j hj (hall j hj)
    cases fuel with
    | zero =>
      refine ⟨?_, ?_⟩
      · cases hr : Region.ready .any ops listed with
        | nil => rfl
        | cons i t =>
          exfalso
          have hi : i ∈ Region.ready .any ops listed := by rw [hr]; exact List.mem_cons_self ..
          obtain ⟨hun, o, ho, _⟩ := mem_ready.1 hi
          have hlt : i < listed.size := by rw [inv.ls]; exact (Array.getElem?_eq_some_iff.1 ho).1
          have := List.count_eq_zero.1 hc
          rw [Array.getD_eq_getD_getElem?, Array.getElem?_eq_getElem hlt] at hun
          exact this (by rw [← show listed[i] = false from hun]; exact Array.getElem_mem_toList hlt)
      · refine fin ?_
        cases hr : Region.ready .any ops listed with
        | nil => rfl
        | cons i t =>
          exfalso
          have hi : i ∈ Region.ready .any ops listed := by rw [hr]; exact List.mem_cons_self ..
          obtain ⟨hun, o, ho, _⟩ := mem_ready.1 hi
          have hlt : i < listed.size := by rw [inv.ls]; exact (Array.getElem?_eq_some_iff.1 ho).1
          have := List.count_eq_zero.1 hc
          rw [Array.getD_eq_getD_getElem?, Array.getElem?_eq_getElem hlt] at hun
          exact this (by rw [← show listed[i] = false from hun]; exact Array.getElem_mem_toList hlt)
    | succ f =>
      refine ⟨fin, fun i hi => ?_⟩
      obtain ⟨hun, o, ho, hdep⟩ := mem_ready.1 hi
      have hlt : i < listed.size := by rw [inv.ls]; exact (Array.getElem?_eq_some_iff.1 ho).1
      refine wpOp_mono (fun a' w' hh => ?_) (hstep _ i o a w ho (by rw [Array.getD_eq_getD_getElem?] at hun ⊢; rw [Array.getElem?_eq_getElem hlt] at hun ⊢; exact hun) hdep inv.inv inv.b inv.size inv.old fun e he hb => inv.got e.on (by have := (growB_spec hB ho).1 e he hb; have := (Array.getElem?_eq_some_iff.1 ho).1; omega) (hdep e he hb))
      obtain ⟨v, rfl, hv, hb, hI, hX⟩ := hh
      have hcount : (listed.setIfInBounds i true).toList.count false = f := by
        obtain ⟨l⟩ := listed
        simp only [List.size_toArray] at hlt
        simp [hlt] at hun
        simp only [List.setIfInBounds_toArray]
        have hm : l.count false ≠ 0 := by
          intro h0
          exact List.count_eq_zero.1 h0 (hun ▸ List.getElem_mem hlt)
        simp only at hc
        rw [List.count_set hlt, hun]
        simp
        omega
      exact wpAny_growA ht hB hJ hstep hend f _ _ _ (inv.step ht hB hJ ho hv hb hI hX) hcount
theorem region_growA (Lt : World → World → Prop) (I : (Nat → Bool) → Array Value → World → Prop) (X : (Nat → Bool) → World → World → Prop) (hr : ∀ w, Lt w w) (ht : ∀ a b c, Lt a b → Lt b c → Lt a c) {P : Program} {id : Nat} {ops : Array Oper} {Q : Exit → Act → World → Prop} (J : Nat → Value → World → Prop) {a0 : Act} {w : World} (hm : P.follows .mixedOrders = true) (hB : growB ops a0.tmps.size = true) (hJ : ∀ (d : Nat → Bool) (j : Nat) (v : Value) (w w' : World), d j = true → J j v w → Lt w w' → X d w w' → J j v w') (h0 : I (fun _ => false) a0.tmps w.drew)
    (hstep : ∀ (d : Nat → Bool) (j : Nat) (o : Oper) (a : Act) (w1 : World), ops[j]? = some o → d j = false → (∀ e ∈ o.after, Region.binds .any e = true → d e.on = true) → I d a.tmps w1 → Lt w.drew w1 → a.tmps.size = a0.tmps.size → (∀ s, (∀ j, j < ops.size → dstOf ops j ≠ some s) → a.tmps[s]? = a0.tmps[s]?) →
      (∀ e ∈ o.after, Region.binds .any e = true → J e.on (valOf ops a e.on) w1) → wpOp P ops Q j (fun a' w' => ∃ v, a' = a.put o.dst v ∧ J j (match o.dst with | some _ => v | none => undef) w' ∧ Lt w1 w' ∧ I (upd d j) a'.tmps w' ∧ X d w1 w') a w1)
    (hend : ∀ a w1, I (fun j => decide (j < ops.size)) a.tmps w1 → Lt w.drew w1 → a.defers = a0.defers → a.tmps.size = a0.tmps.size → (∀ s, (∀ j, j < ops.size → dstOf ops j ≠ some s) → a.tmps[s]? = a0.tmps[s]?) → (∀ j, j < ops.size → J j (valOf ops a j) w1) → Q .normal a w1) : (Code.region id ops true).wp P Q a0 w := by
  refine wp_region_any hm ?_
  exact wpAny_growA ht (w0 := w.drew) hB hJ hstep hend _ _ _ _ ⟨hr _, rfl, rfl, fun s _ => rfl, by simp, fun j hj hl => by rw [Array.getD_eq_getD_getElem?] at hl; simp [hj] at hl, by
    have e : (fun j => (Array.replicate ops.size false).getD j false) = fun _ => false := by
      funext j
      rw [Array.getD_eq_getD_getElem?, Array.getElem?_replicate]
      split <;> rfl
    rw [e]; exact h0⟩ (by simp)
/-- An operation that gives a value. -/
theorem growA_val {Lt : World → World → Prop} {I : (Nat → Bool) → Array Value → World → Prop} {X : (Nat → Bool) → World → World → Prop} {d : Nat → Bool} {P : Program} {ops : Array Oper} {Q : Exit → Act → World → Prop} {J : Nat → Value → World → Prop} {a : Act} {w : World} {j : Nat} {o : Oper} (v : Value) (w' : World) (ho : ops[j]? = some o) (hw : Region.wanted o (yielded ops a.tmps) = true)
    (hr : (execOp a.eval o).run P w = .ok (.value v) w') (hb : Lt w w') (hI : I (upd d j) (a.put o.dst v).tmps w') (hX : X d w w') (hJ : J j (match o.dst with | some _ => v | none => undef) w') : wpOp P ops Q j (fun a' w' => ∃ v, a' = a.put o.dst v ∧ J j (match o.dst with | some _ => v | none => undef) w' ∧ Lt w w' ∧ I (upd d j) a'.tmps w' ∧ X d w w') a w := by
  unfold wpOp
  rw [ho]
  simp only [hw, if_true]
  left
  unfold Oper.wp
  rw [hr]
  exact ⟨v, rfl, hJ, hb, hI, hX⟩
/-- An operation that writes memory. -/
theorem growA_skip {Lt : World → World → Prop} {I : (Nat → Bool) → Array Value → World → Prop} {X : (Nat → Bool) → World → World → Prop} {d : Nat → Bool} {P : Program} {ops : Array Oper} {Q : Exit → Act → World → Prop} {J : Nat → Value → World → Prop} {a : Act} {w : World} {j : Nat} {o : Oper} (w' : World) (ho : ops[j]? = some o) (hw : Region.wanted o (yielded ops a.tmps) = true)
    (hn : o.dst = none) (hr : (execOp a.eval o).run P w = .ok .skip w') (hb : Lt w w') (hI : I (upd d j) a.tmps w') (hX : X d w w') (hJ : J j undef w') : wpOp P ops Q j (fun a' w' => ∃ v, a' = a.put o.dst v ∧ J j (match o.dst with | some _ => v | none => undef) w' ∧ Lt w w' ∧ I (upd d j) a'.tmps w' ∧ X d w w') a w := by
  unfold wpOp
  rw [ho]
  simp only [hw, if_true]
  left
  unfold Oper.wp
  rw [hr]
  exact ⟨undef, by unfold Act.put; rw [hn], by rw [hn]; exact hJ, hb, by unfold Act.put; rw [hn]; exact hI, hX⟩
/-- An operation that calls. -/
theorem growA_call {Lt : World → World → Prop} {I : (Nat → Bool) → Array Value → World → Prop} {X : (Nat → Bool) → World → World → Prop} {d : Nat → Bool} {P : Program} {ops : Array Oper} {Q : Exit → Act → World → Prop} {J : Nat → Value → World → Prop} {a : Act} {w : World} {j : Nat} {o : Oper} (f : FuncId) (args : Array Value) (ho : ops[j]? = some o) (hw : Region.wanted o (yielded ops a.tmps) = true)
    (hr : (execOp a.eval o).run P w = .ok (.enter f args) w) (hc : Calls P f args w fun e w' => ∃ v, e = .returned v ∧ J j (match o.dst with | some _ => v | none => undef) w' ∧ Lt w w' ∧ I (upd d j) (a.put o.dst v).tmps w' ∧ X d w w') : wpOp P ops Q j (fun a' w' => ∃ v, a' = a.put o.dst v ∧ J j (match o.dst with | some _ => v | none => undef) w' ∧ Lt w w' ∧ I (upd d j) a'.tmps w' ∧ X d w w') a w := by
  unfold wpOp
  rw [ho]
  simp only [hw, if_true]
  left
  unfold Oper.wp
  rw [hr, Oper.upon_enter]
  refine Calls.mono hc fun e w' ⟨v, he, h1, h2, h3, h4⟩ => ?_
  subst he
  exact ⟨v, rfl, h1, h2, h3, h4⟩
theorem region_growA_merge (Lt : World → World → Prop) (I : (Nat → Bool) → Array Value → World → Prop) (X : (Nat → Bool) → World → World → Prop) (hr : ∀ w, Lt w w) (ht : ∀ a b c, Lt a b → Lt b c → Lt a c) {P : Program} {id : Nat} {ops : Array Oper} {Q : Exit → Act → World → Prop} (J : Nat → Value → World → Prop) (ws : List Nat) (R : Array Value → World → Prop) {a0 : Act} {w : World} (hm : P.follows .mixedOrders = true) (hB : growB ops a0.tmps.size = true)
    (hW : ((List.range ops.size).all fun j => match dstOf ops j with | some s => ws.contains s | none => true) = true) (hJ : ∀ (d : Nat → Bool) (j : Nat) (v : Value) (w w' : World), d j = true → J j v w → Lt w w' → X d w w' → J j v w') (h0 : I (fun _ => false) a0.tmps w.drew)
    (hstep : ∀ (Q : Exit → Act → World → Prop) (d : Nat → Bool) (j : Nat) (o : Oper) (a : Act) (w1 : World), ops[j]? = some o → d j = false → (∀ e ∈ o.after, Region.binds .any e = true → d e.on = true) → I d a.tmps w1 → Lt w.drew w1 → a.tmps.size = a0.tmps.size → (∀ s, (∀ j, j < ops.size → dstOf ops j ≠ some s) → a.tmps[s]? = a0.tmps[s]?) →
      (∀ e ∈ o.after, Region.binds .any e = true → J e.on (valOf ops a e.on) w1) → wpOp P ops Q j (fun a' w' => ∃ v, a' = a.put o.dst v ∧ J j (match o.dst with | some _ => v | none => undef) w' ∧ Lt w1 w' ∧ I (upd d j) a'.tmps w' ∧ X d w1 w') a w1)
    (hend : ∀ a w1, I (fun j => decide (j < ops.size)) a.tmps w1 → Lt w.drew w1 → (∀ j, j < ops.size → J j (valOf ops a j) w1) → R a.tmps w1)
    (k : ∀ (ts : Array Value) (w' : World), R ts w' → Q .normal ⟨fill ts ws a0.tmps, a0.defers⟩ w') : (Code.region id ops true).wp P Q a0 w := by
  refine region_merge ws R (region_growA Lt I X hr ht J hm hB hJ h0 (hstep _) fun a w1 hi hb hd hs hold hj => ⟨rfl, hd, hs, ?_, hend a w1 hi hb hj⟩) k
  apply Array.ext_getElem?
  intro i
  rw [blank_get, blank_get, hs]
  by_cases hi : i ∈ ws
  · by_cases h2 : i < a0.tmps.size
    · rw [if_pos ⟨hi, h2⟩, if_pos ⟨hi, h2⟩]
    · rw [if_neg (fun h => h2 h.2), if_neg (fun h => h2 h.2), Array.getElem?_eq_none (by omega), Array.getElem?_eq_none (by omega)]
  · rw [if_neg (fun h => hi h.1), if_neg (fun h => hi h.1)]
    refine hold i fun j hj e => hi ?_
    have := List.all_eq_true.1 hW j (List.mem_range.2 hj)
    rw [e] at this
    simpa using this
end Go.Proofs.YtigcgkhcbmnboaaGreatDoor

/- A column that is written in its place of an owned row; cells of it. -/
namespace Go.Proofs.YtigcgkhcbmnboaaGreatDoor
open Go.RowKit
set_option linter.unusedVariables false
set_option linter.unusedSimpArgs false

theorem coc_set7 : ∀ (l : List Co) (i : Nat) (x : Co), i < l.length → (((((((Gn.cells coc l).set (i * 7) (.int .i64 x.id)).set (i * 7 + 1) (.string x.nm)).set (i * 7 + 2) (.int .i64 x.k)).set (i * 7 + 3) (.bool x.u)).set (i * 7 + 4) (.bool x.d.u)).set (i * 7 + 5) (.int .i64 x.d.n)).set (i * 7 + 6) (.string x.d.s) = Gn.cells coc (l.set i x)
  | [], i, x, h => by simp at h
  | y :: t, 0, x, _ => rfl
  | y :: t, i + 1, x, h => by
    have ih := coc_set7 t i x (by simpa using h)
    rw [List.set_cons_succ, Gn.cells_cons, Gn.cells_cons, ← ih]
    rw [show (i + 1) * 7 = i * 7 + 7 by omega, show i * 7 + 7 + 1 = i * 7 + 1 + 7 by omega, show i * 7 + 7 + 2 = i * 7 + 2 + 7 by omega, show i * 7 + 7 + 3 = i * 7 + 3 + 7 by omega, show i * 7 + 7 + 4 = i * 7 + 4 + 7 by omega, show i * 7 + 7 + 5 = i * 7 + 5 + 7 by omega, show i * 7 + 7 + 6 = i * 7 + 6 + 7 by omega]
    rfl
/-- The world behind the write. -/
def put7W (w : World) (g o : Nat) (x : Co) : World := ((((((w.setCell ⟨g, o, none⟩ (.int .i64 x.id)).setCell ⟨g, o + 1, none⟩ (.string x.nm)).setCell ⟨g, o + 2, none⟩ (.int .i64 x.k)).setCell ⟨g, o + 3, none⟩ (.bool x.u)).setCell ⟨g, o + 4, none⟩ (.bool x.d.u)).setCell ⟨g, o + 5, none⟩ (.int .i64 x.d.n)).setCell ⟨g, o + 6, none⟩ (.string x.d.s)
theorem own_put7 {w : World} {base g n cap i : Nat} {l : List Co} (h : OwnK w base (.slice (some ⟨g, 0, none⟩) n cap) l) (hn : l.length = n) (hi : i < n) (x : Co) :
    OwnK (put7W w g (i * 7) x) base (.slice (some ⟨g, 0, none⟩) n cap) (l.set i x) := by
  unfold OwnK Gn.Own at h ⊢
  rw [List.length_set]
  rw [hn] at h ⊢
  have h3 := (((((((h.stored (i * 7) (.int .i64 x.id)).1.stored (i * 7 + 1) (.string x.nm)).1.stored (i * 7 + 2) (.int .i64 x.k)).1.stored (i * 7 + 3) (.bool x.u)).1.stored (i * 7 + 4) (.bool x.d.u)).1.stored (i * 7 + 5) (.int .i64 x.d.n)).1.stored (i * 7 + 6) (.string x.d.s)).1
  rw [coc_set7 l i x (by omega)] at h3
  exact h3
theorem grown_put7 {w : World} {base g n cap i : Nat} {l : List Co} (h : OwnK w base (.slice (some ⟨g, 0, none⟩) n cap) l) (x : Co) : Touch (fun k => k = g) w (put7W w g (i * 7) x) := by
  unfold put7W
  have hS : (fun k => k = g) g := rfl
  exact (((((((Touch.refl _ _).setCell hS _).setCell hS _).setCell hS _).setCell hS _).setCell hS _).setCell hS _).setCell hS _
theorem own_there7 {w : World} {base g n cap i : Nat} {l : List Co} (h : OwnK w base (.slice (some ⟨g, 0, none⟩) n cap) l) (hn : l.length = n) (hi : i < n) : w.there g (i * 7) 7 := fun j hj => by
  unfold OwnK Gn.Own at h
  rw [hn] at h
  have hc := Gn.cells_len coL l
  refine ⟨?_, h.frozenAt _⟩
  rw [h.cellAt (i * 7 + j) (by omega), List.getElem?_eq_getElem (by rw [hc]; omega)]; rfl
end Go.Proofs.YtigcgkhcbmnboaaGreatDoor

/- A schema in a variable (split off ScBackW); texts that are the same. -/
namespace Go.Proofs.YtigcgkhcbmnboaaGreatDoor
open Go.RowKit
set_option linter.unusedVariables false
set_option linter.unusedSimpArgs false

/-- A made schema in a variable. -/
structure SV (w : World) (g : Nat) (cv kv : Value) (cs : List Co) (ks : List Int) : Prop where
  x : Blk w g 25 [cv, kv]
  c : RdK w w.heap.size cv cs
  k : RdI w w.heap.size kv ks
theorem SV.later {w w' : World} {g : Nat} {cv kv : Value} {cs : List Co} {ks : List Int} (h : SV w g cv kv cs ks) (hb : Below w.heap.size w w') : SV w' g cv kv cs ks := ⟨h.x.later hb, h.c.later hb, h.k.later hb⟩
theorem SV.new {w : World} {B : Nat} {cv kv : Value} {cs : List Co} {ks : List Int} (ho : OwnK w B cv cs) (hi : OwnI w B kv ks) : SV (w.alloc (.cells #[cv, kv] 25)) w.heap.size cv kv cs ks :=
  ⟨Blk.new w 25 #[cv, kv], (RdK.of ho).later (box_new _ _), (RdI.of hi).later (box_new _ _)⟩
theorem SV.lie {w : World} {g : Nat} {cv kv : Value} {cs : List Co} {ks : List Int} (h : SV w g cv kv cs ks) : w.cell? ⟨g, 0, none⟩ = some cv ∧ w.cell? ⟨g, 1, none⟩ = some kv := ⟨h.x.cell 0, h.x.cell 1⟩
end Go.Proofs.YtigcgkhcbmnboaaGreatDoor

/- Evolve, plainly: which schema may follow which other one, chains, rows that are moved and carried. -/
namespace Go.Proofs.YtigcgkhcbmnboaaGreatDoor.Ev
open Cl
set_option linter.unusedVariables false
set_option linter.unusedSimpArgs false

abbrev Sm := List Co × List Int
def sm0 : Sm := ([], [])
/-- The highest of a number and all ids. -/
def hi (h : Int) (l : List Co) : Int := l.foldl (fun h c => max h c.id) h
def hiL (l : List Sm) : Int := l.foldl (fun h s => hi h s.1) 0
def wider (a b : Co) : Bool := decide (a.k = 2) && (decide (b.k = 3) && decide (b.u = a.u))
def sameT (a b : Co) : Bool := decide (a.k = b.k) && decide (a.u = b.u)
/-- May a column stay as another one of its id? -/
def stay (a b : Co) : Bool := decide (bl a.nm = bl b.nm) && (eqc a.d b.d && (sameT a b || wider a b))
def fid (a : List Co) (n : Int) : Nat × Bool := Sc.find (Sc.byId n) a
def goAt (a : List Co) (h : Int) (c : Co) : Bool := if (fid a c.id).2 = true then stay (a.getD (fid a c.id).1 Sc.co0) c else decide (h < c.id)
/-- The ids of the key's columns, in the order of the columns. -/
def kidF (ks : List Int) : Nat → List Co → List Int
  | _, [] => []
  | i, c :: t => if ((i : Nat) : Int) ∈ ks then c.id :: kidF ks (i + 1) t else kidF ks (i + 1) t
theorem kidF_cons (ks : List Int) (i : Nat) (c : Co) (t : List Co) : kidF ks i (c :: t) = if ((i : Nat) : Int) ∈ ks then c.id :: kidF ks (i + 1) t else kidF ks (i + 1) t := rfl
def kid (s : Sm) : List Int := kidF s.2 0 s.1
def fol (a b : Sm) (h : Int) : Bool := b.1.all (goAt a.1 h) && decide (kid a = kid b)
def folAt (l : List Sm) (i : Nat) : Bool := decide (i = 0) || fol (l.getD (i - 1) sm0) (l.getD i sm0) (hiL (l.take i))
def isCh (l : List Sm) : Bool := (List.range l.length).all (folAt l)
def allOk (l : List Sm) : Bool := l.all fun s => decide (Sc.ck s.1 s.2 = 0)
/-- Chain's answer. -/
def chain (l : List Sm) : Int := if 64 < l.length then 5 else if allOk l = true then (if isCh l = true then 0 else 120) else 2
/-- A row that is moved. -/
def mvd (a b : List Co) (r : List C) : List C := b.map fun c => if (fid a c.id).2 = true then r.getD (fid a c.id).1 Cl.empty else c.d
def go (a : List Co) : List Sm → List C → List C
  | [], r => r
  | s :: t, r => go s.1 t (mvd a s.1 r)
structure Ans where
  r : List C
  e : Int
def carry (l : List Sm) (f t : Int) (r : List C) : Ans :=
  if chain l ≠ 0 then ⟨[], chain l⟩ else if f < 1 ∨ t < f ∨ (l.length : Int) < t then ⟨[], 131⟩
  else if Rw.chkR (tys (l.getD (f.toNat - 1) sm0).1) r ≠ 0 then ⟨[], Rw.chkR (tys (l.getD (f.toNat - 1) sm0).1) r⟩
  else ⟨go (l.getD (f.toNat - 1) sm0).1 ((l.take t.toNat).drop f.toNat) r, 0⟩

/-! ### highest -/
theorem hi_lt : ∀ {l : List Co} {h x : Int}, hi h l < x ↔ h < x ∧ ∀ c ∈ l, c.id < x
  | [], h, x => by simp [hi]
  | c :: t, h, x => by
    have ih := hi_lt (l := t) (h := max h c.id) (x := x)
    unfold hi at ih ⊢
    rw [List.foldl_cons, ih]
    simp only [List.mem_cons, forall_eq_or_imp]
    constructor
    · rintro ⟨h1, h2⟩; exact ⟨by omega, by omega, h2⟩
    · rintro ⟨h1, h2, h3⟩; exact ⟨by omega, h3⟩
theorem hiL_snoc (l : List Sm) (s : Sm) : hiL (l ++ [s]) = hi (hiL l) s.1 := by unfold hiL; rw [List.foldl_append]; rfl
theorem hiF_lt : ∀ {l : List Sm} {h x : Int}, l.foldl (fun h s => hi h s.1) h < x ↔ h < x ∧ ∀ s ∈ l, ∀ c ∈ s.1, c.id < x
  | [], h, x => by simp
  | s :: t, h, x => by
    rw [List.foldl_cons, hiF_lt, hi_lt]
    simp only [List.mem_cons, forall_eq_or_imp, and_assoc]
theorem hiL_lt {l : List Sm} {x : Int} : hiL l < x ↔ 0 < x ∧ ∀ s ∈ l, ∀ c ∈ s.1, c.id < x := hiF_lt
/-! ### columns of an id -/
theorem fid_some {a : List Co} {n : Int} {i : Nat} (h : fid a n = (i, true)) : ∃ d, a[i]? = some d ∧ d.id = n := by
  unfold fid at h
  induction a generalizing i with
  | nil => simp [Sc.find] at h
  | cons x t ih =>
    unfold Sc.find at h
    split at h
    · next h1 =>
      injection h with h2 _
      subst h2
      exact ⟨x, rfl, by simpa [Sc.byId] using h1⟩
    · split at h
      · next h1 h2 =>
        injection h with h3 _
        subst h3
        obtain ⟨d, hd, he⟩ := ih (i := (Sc.find (Sc.byId n) t).1) (by rw [← h2])
        exact ⟨d, by simpa using hd, he⟩
      · injection h with _ h3; cases h3
theorem fid_not {a : List Co} {n : Int} (h : ∀ d ∈ a, d.id ≠ n) : (fid a n).2 = false := by
  cases e : (fid a n).2 with
  | false => rfl
  | true =>
    obtain ⟨d, hd, he⟩ := fid_some (a := a) (n := n) (i := (fid a n).1) (by rw [← e])
    exact absurd he (h d (List.mem_of_getElem? hd))
/-- Ids rise. -/
def Rise (l : List Co) : Prop := ∀ (i j : Nat) (c d : Co), i < j → l[i]? = some c → l[j]? = some d → c.id < d.id
theorem fid_at {l : List Co} (h : Rise l) {i : Nat} {c : Co} (hc : l[i]? = some c) : fid l c.id = (i, true) := by
  refine Sc.find_hit hc (by simp [Sc.byId]) (fun j d hj hd => ?_)
  have := h j i d c hj hd hc
  unfold Sc.byId
  simp; omega
theorem okC_at {l : List Co} (h : Sc.okC l = true) {i : Nat} {c : Co} (hc : l[i]? = some c) : 1 ≤ c.id ∧ c.id ≤ 1048576 ∧ Sc.name (bl c.nm) = true ∧ chk c.u c.k c.d = 0 := by
  obtain ⟨⟨h1, h2⟩, h3, h4, _⟩ := Sc.okAt_parts.1 ((Sc.okC_iff.1 h).2 i c hc)
  refine ⟨?_, h2, h3, h4⟩
  have : ∀ i, i ≤ l.length → 1 ≤ Sc.least l i := fun i => by
    induction i with
    | zero => intro _; simp [Sc.least]
    | succ i ih =>
      intro hi
      obtain ⟨d, hd⟩ : ∃ d, l[i]? = some d := ⟨_, List.getElem?_eq_getElem (by omega)⟩
      have h5 := (Sc.okAt_parts.1 ((Sc.okC_iff.1 h).2 i d hd)).1.1
      have := ih (by omega)
      unfold Sc.least
      rw [if_neg (by omega), Nat.add_sub_cancel, Sc.getD_of hd]
      omega
  have := this i (by have := (List.getElem?_eq_some_iff.1 hc).1; omega)
  omega
theorem okC_rise {l : List Co} (h : Sc.okC l = true) : Rise l := by
  intro i j c d hij hc hd
  induction j generalizing d with
  | zero => omega
  | succ j ih =>
    obtain ⟨e, he⟩ : ∃ e, l[j]? = some e := ⟨_, List.getElem?_eq_getElem (by have := (List.getElem?_eq_some_iff.1 hd).1; omega)⟩
    have h1 := (Sc.okAt_parts.1 ((Sc.okC_iff.1 h).2 _ d hd)).1.1
    unfold Sc.least at h1
    rw [if_neg (by omega), Nat.add_sub_cancel, Sc.getD_of he] at h1
    rcases Nat.lt_or_ge i j with hlt | hge
    · have := ih e hlt he; omega
    · obtain rfl : i = j := by omega
      rw [hc] at he; injection he with he; subst he; omega

/-! ### what stays -/
structure St (a b : Co) : Prop where
  nm : a.nm = b.nm
  d : a.d = b.d
  u : a.u = b.u
  k : a.k = b.k ∨ (a.k = 2 ∧ b.k = 3)
theorem stay_iff {a b : Co} : stay a b = true ↔ St a b := by
  unfold stay sameT wider
  simp only [Bool.and_eq_true, Bool.or_eq_true, decide_eq_true_eq, eqc_iff]
  constructor
  · rintro ⟨h1, h2, h3⟩
    refine ⟨bl_inj h1, h2, ?_, ?_⟩
    · rcases h3 with ⟨_, h⟩ | ⟨_, _, h⟩
      · exact h
      · exact h.symm
    · rcases h3 with ⟨h, _⟩ | ⟨h, h', _⟩
      · exact .inl h
      · exact .inr ⟨h, h'⟩
  · rintro ⟨h1, h2, h3, h4⟩
    refine ⟨by rw [h1], h2, ?_⟩
    rcases h4 with h | ⟨h, h'⟩
    · exact .inl ⟨h, h3⟩
    · exact .inr ⟨h, h', h3.symm⟩
theorem St.refl (a : Co) : St a a := ⟨rfl, rfl, rfl, .inl rfl⟩
theorem St.trans {a b c : Co} (h : St a b) (k : St b c) : St a c := by
  refine ⟨h.nm.trans k.nm, h.d.trans k.d, h.u.trans k.u, ?_⟩
  rcases h.k with h1 | ⟨h1, h2⟩ <;> rcases k.k with k1 | ⟨k1, k2⟩
  · exact .inl (h1.trans k1)
  · exact .inr ⟨by omega, k2⟩
  · exact .inr ⟨h1, by omega⟩
  · omega
/-- One set of columns is behind another one: a column of both stays, what comes is above all. -/
def T (a b : List Co) : Prop := ∀ c ∈ b, (∃ i d, fid a c.id = (i, true) ∧ a[i]? = some d ∧ St d c) ∨ ((fid a c.id).2 = false ∧ ∀ d ∈ a, d.id < c.id)
theorem T.refl {a : List Co} (h : Rise a) : T a a := fun c hc => by
  obtain ⟨i, hi⟩ := List.getElem?_of_mem hc
  exact .inl ⟨i, c, fid_at h hi, hi, .refl c⟩
theorem goAt_iff {a : List Co} {h : Int} {c : Co} : goAt a h c = true ↔ (∃ i d, fid a c.id = (i, true) ∧ a[i]? = some d ∧ St d c) ∨ ((fid a c.id).2 = false ∧ h < c.id) := by
  unfold goAt
  cases e : (fid a c.id).2 with
  | false =>
    simp only [Bool.false_eq_true, if_false, decide_eq_true_eq, true_and]
    constructor
    · exact .inr
    · rintro (⟨i, d, h1, _⟩ | h1)
      · rw [h1] at e; cases e
      · exact h1
  | true =>
    have e1 : fid a c.id = ((fid a c.id).1, true) := by rw [← e]
    obtain ⟨d, hd, he⟩ := fid_some e1
    simp only [if_true, Bool.true_eq_false, false_and, or_false]
    rw [Sc.getD_of hd, stay_iff]
    constructor
    · intro h1; exact ⟨_, d, e1, hd, h1⟩
    · rintro ⟨i, d', h1, h2, h3⟩
      rw [h1] at hd
      rw [hd] at h2; injection h2 with h2; subst h2; exact h3
theorem T.step {a b e : List Co} {h : Int} (hab : T a b) (hh : ∀ d ∈ a, d.id ≤ h) (hg : ∀ c ∈ e, goAt b h c = true) : T a e := fun c hc => by
  rcases goAt_iff.1 (hg c hc) with ⟨i, y, h1, h2, h3⟩ | ⟨h1, h2⟩
  · obtain ⟨y', h4, h5⟩ := fid_some h1
    rw [h2] at h4; injection h4 with h4; subst h4
    rcases hab y (List.mem_of_getElem? h2) with ⟨j, d, k1, k2, k3⟩ | ⟨k1, k2⟩
    · rw [h5] at k1
      exact .inl ⟨j, d, k1, k2, k3.trans h3⟩
    · rw [h5] at k1 k2
      exact .inr ⟨k1, k2⟩
  · have h4 : ∀ d ∈ a, d.id < c.id := fun d hd => by have := hh d hd; omega
    exact .inr ⟨fid_not (fun d hd e => by have := h4 d hd; omega), h4⟩
theorem T.go {a b : List Co} (h : T a b) (hp : ∀ c ∈ b, 0 < c.id) : ∀ c ∈ b, goAt a (hi 0 a) c = true := fun c hc => by
  rcases h c hc with h1 | ⟨h1, h2⟩
  · exact goAt_iff.2 (.inl h1)
  · exact goAt_iff.2 (.inr ⟨h1, hi_lt.2 ⟨hp c hc, h2⟩⟩)

/-! ### rows that are moved -/
theorem mvd_len (a b : List Co) (r : List C) : (mvd a b r).length = b.length := by unfold mvd; simp
def mv1 (a : List Co) (r : List C) (c : Co) : C := if (fid a c.id).2 = true then r.getD (fid a c.id).1 Cl.empty else c.d
theorem mvd_at {a b : List Co} {r : List C} {i : Nat} {c : Co} (h : b[i]? = some c) : (mvd a b r)[i]? = some (mv1 a r c) := by unfold mvd mv1; rw [List.getElem?_map, h]; rfl
theorem mvd_mvd {a b e : List Co} {h : Int} {r : List C} (hab : T a b) (hh : ∀ d ∈ a, d.id ≤ h) (hg : ∀ c ∈ e, goAt b h c = true) : mvd b e (mvd a b r) = mvd a e r := by
  have hae := hab.step hh hg
  unfold mvd
  refine List.map_congr_left fun c hc => ?_
  rcases goAt_iff.1 (hg c hc) with ⟨i, y, h1, h2, h3⟩ | ⟨h1, h2⟩
  · obtain ⟨y', h4, h5⟩ := fid_some h1
    rw [h2] at h4; injection h4 with h4; subst h4
    rw [h1]
    simp only [if_true]
    rw [List.getD_eq_getElem?_getD, List.getElem?_map, h2]
    simp only [Option.map_some, Option.getD_some]
    rw [h5, h3.d]
  · rw [h1]
    have h4 : (fid a c.id).2 = false := fid_not (fun d hd e => by have := hh d hd; omega)
    rw [h4]; rfl
theorem mvd_self {a : List Co} {r : List C} (h : Rise a) (hl : r.length = a.length) : mvd a a r = r := by
  refine List.ext_getElem? fun i => ?_
  rcases Nat.lt_or_ge i a.length with hi | hi
  · obtain ⟨c, hc⟩ : ∃ c, a[i]? = some c := ⟨_, List.getElem?_eq_getElem hi⟩
    rw [mvd_at hc]
    unfold mv1
    rw [fid_at h hc]
    simp only [if_true]
    rw [List.getD_eq_getElem?_getD, List.getElem?_eq_getElem (by omega)]; rfl
  · rw [List.getElem?_eq_none (by rw [mvd_len]; exact hi), List.getElem?_eq_none (by omega)]
theorem chkR_zero {ts : List Rw.Ty} {r : List C} : Rw.chkR ts r = 0 ↔ r.length = ts.length ∧ ∀ (i : Nat) (t : Rw.Ty) (c : C), ts[i]? = some t → r[i]? = some c → chk t.1 t.2 c = 0 := by
  have fz : ∀ l : List Int, Rw.fnz l = 0 ↔ ∀ x ∈ l, x = 0 := fun l => by
    induction l with
    | nil => simp [Rw.fnz]
    | cons x t ih =>
      unfold Rw.fnz
      by_cases h : x = 0
      · rw [if_neg (by omega), ih]; simp [h]
      · rw [if_pos h]; simp [h]
  unfold Rw.chkR
  by_cases hl : r.length = ts.length
  · rw [if_neg (by omega), fz]
    constructor
    · intro h
      refine ⟨hl, fun i t c ht hc => ?_⟩
      have := h ((chk t.1 t.2 c : Nat) : Int) (List.mem_of_getElem? (i := i) (by unfold Rw.chkL; rw [List.getElem?_zipWith, ht, hc]))
      omega
    · rintro ⟨_, h⟩ x hx
      obtain ⟨i, hi⟩ := List.getElem?_of_mem hx
      unfold Rw.chkL at hi
      rw [List.getElem?_zipWith] at hi
      cases h1 : ts[i]? with
      | none => rw [h1] at hi; cases hi
      | some t =>
        cases h2 : r[i]? with
        | none => rw [h1, h2] at hi; cases hi
        | some c =>
          rw [h1, h2] at hi
          injection hi with hi
          rw [← hi, h i t c h1 h2]; rfl
  · rw [if_pos hl]
    constructor
    · intro h; omega
    · rintro ⟨h, _⟩; exact absurd h hl
theorem chk_wide {u : Bool} {c : C} (h : chk u 2 c = 0) : chk u 3 c = 0 := by
  obtain ⟨h1, h2⟩ := chk_ok h
  have h3 : of u 3 c = true := by
    unfold of isK at h2 ⊢
    simp only [Bool.or_eq_true, Bool.and_eq_true] at h2 ⊢
    rcases h2 with h2 | ⟨h2, h4⟩
    · exact .inl h2
    · refine .inr ⟨h2, ?_⟩
      simp at h4 ⊢
      exact h4.1
  unfold chk
  rw [h3]; simp [may]
theorem mvd_ok {a b : List Co} {r : List C} (h : T a b) (hr : Rw.chkR (tys a) r = 0) (hb : Sc.okC b = true) : Rw.chkR (tys b) (mvd a b r) = 0 := by
  obtain ⟨hl, hc⟩ := chkR_zero.1 hr
  rw [tys_len] at hl
  refine chkR_zero.2 ⟨by rw [mvd_len, tys_len], fun i t c ht hci => ?_⟩
  unfold tys at ht
  rw [List.getElem?_map] at ht
  cases hx : b[i]? with
  | none => rw [hx] at ht; cases ht
  | some x =>
    rw [hx] at ht
    injection ht with ht
    subst ht
    rw [mvd_at hx] at hci
    injection hci with hci
    subst hci
    unfold mv1
    rcases h x (List.mem_of_getElem? hx) with ⟨j, d, k1, k2, k3⟩ | ⟨k1, _⟩
    · rw [k1]
      simp only [if_true]
      obtain ⟨y, hy⟩ : ∃ y, r[j]? = some y := ⟨_, List.getElem?_eq_getElem (by have := (List.getElem?_eq_some_iff.1 k2).1; omega)⟩
      rw [Sc.getD_of hy]
      have h1 := hc j _ y (tys_at k2) hy
      simp only at h1
      rw [← k3.u]
      rcases k3.k with k4 | ⟨k4, k5⟩
      · rw [← k4]; exact h1
      · rw [k4] at h1; rw [k5]; exact chk_wide h1
    · rw [k1]
      exact (okC_at hb hx).2.2.2

/-! ### chains -/
theorem isCh_iff {l : List Sm} : isCh l = true ↔ ∀ i, i < l.length → folAt l i = true := by unfold isCh; simp [List.all_eq_true]
theorem isCh_no {l : List Sm} {i : Nat} (hi : i < l.length) (h : folAt l i = false) : isCh l = false := by
  cases e : isCh l with
  | false => rfl
  | true => have := isCh_iff.1 e i hi; rw [h] at this; cases this
theorem allOk_no {l : List Sm} {i : Nat} {s : Sm} (h : l[i]? = some s) (hn : Sc.ck s.1 s.2 = 2) : allOk l = false := by
  cases e : allOk l with
  | false => rfl
  | true =>
    unfold allOk at e
    rw [List.all_eq_true] at e
    have := e s (List.mem_of_getElem? h)
    rw [hn] at this; simp at this
theorem chain_zero {l : List Sm} : chain l = 0 ↔ l.length ≤ 64 ∧ (∀ s ∈ l, Sc.ck s.1 s.2 = 0) ∧ isCh l = true := by
  unfold chain allOk
  by_cases h1 : 64 < l.length
  · rw [if_pos h1]; constructor
    · intro h; omega
    · rintro ⟨h, _⟩; omega
  · rw [if_neg h1]
    by_cases h2 : (l.all fun s => decide (Sc.ck s.1 s.2 = 0)) = true
    · rw [if_pos h2]
      rw [List.all_eq_true] at h2
      by_cases h3 : isCh l = true
      · rw [if_pos h3]; exact ⟨fun _ => ⟨by omega, fun s hs => by simpa using h2 s hs, h3⟩, fun _ => rfl⟩
      · rw [if_neg h3]; constructor
        · intro h; omega
        · rintro ⟨_, _, h⟩; exact absurd h h3
    · rw [if_neg h2]
      constructor
      · intro h; omega
      · rintro ⟨_, h, _⟩
        exact absurd (List.all_eq_true.2 fun s hs => by simpa using h s hs) h2
theorem fol_iff {a b : Sm} {h : Int} : fol a b h = true ↔ (∀ c ∈ b.1, goAt a.1 h c = true) ∧ kid a = kid b := by unfold fol; simp [List.all_eq_true]
theorem getD_at {α : Type} {l : List α} {i : Nat} {x z : α} (h : l[i]? = some x) : l.getD i z = x := by rw [List.getD_eq_getElem?_getD, h]; rfl
/-- A chain that may be. -/
structure Ch (l : List Sm) : Prop where
  ok : ∀ s ∈ l, Sc.ck s.1 s.2 = 0
  ch : isCh l = true
theorem Ch.next {l : List Sm} (h : Ch l) {i : Nat} {a b : Sm} (ha : l[i]? = some a) (hb : l[i + 1]? = some b) : fol a b (hiL (l.take (i + 1))) = true := by
  have := isCh_iff.1 h.ch (i + 1) (List.getElem?_eq_some_iff.1 hb).1
  unfold folAt at this
  rw [getD_at hb, Nat.add_sub_cancel, getD_at ha] at this
  simpa using this
theorem mem_hi {l : List Sm} {i n : Nat} {a : Sm} {d : Co} (hi : i < n) (ha : l[i]? = some a) (hd : d ∈ a.1) : d.id ≤ hiL (l.take n) := by
  have h1 : a ∈ l.take n := List.mem_of_getElem? (i := i) (by rw [List.getElem?_take_of_lt hi]; exact ha)
  rcases Int.lt_or_le (hiL (l.take n)) d.id with h | h
  · have := (hiL_lt.1 h).2 a h1 d hd; omega
  · exact h
theorem Ch.okC {l : List Sm} (h : Ch l) {i : Nat} {a : Sm} (ha : l[i]? = some a) : Sc.okC a.1 = true := (Sc.ck_zero.1 (h.ok a (List.mem_of_getElem? ha))).1
theorem Ch.T {l : List Sm} (h : Ch l) {i : Nat} {a : Sm} (ha : l[i]? = some a) : ∀ (n : Nat) {b : Sm}, l[i + n]? = some b → T a.1 b.1 ∧ kid a = kid b
  | 0, b, hb => by
    rw [Nat.add_zero, ha] at hb; injection hb with hb; subst hb
    exact ⟨T.refl (okC_rise (h.okC ha)), rfl⟩
  | n + 1, b, hb => by
    obtain ⟨m, hm⟩ : ∃ m, l[i + n]? = some m := ⟨_, List.getElem?_eq_getElem (by have := (List.getElem?_eq_some_iff.1 hb).1; omega)⟩
    obtain ⟨h1, h2⟩ := h.T ha n hm
    obtain ⟨h3, h4⟩ := fol_iff.1 (h.next hm hb)
    exact ⟨h1.step (fun d hd => mem_hi (by omega) ha hd) h3, h2.trans h4⟩
/-- Two of a chain, the later one behind the earlier one, are a chain. -/
theorem Ch.two {l : List Sm} (h : Ch l) {i n : Nat} {a b : Sm} (ha : l[i]? = some a) (hb : l[i + n]? = some b) : Ch [a, b] := by
  obtain ⟨h1, h2⟩ := h.T ha n hb
  refine ⟨fun s hs => ?_, isCh_iff.2 fun j hj => ?_⟩
  · simp at hs
    rcases hs with rfl | rfl
    · exact h.ok _ (List.mem_of_getElem? ha)
    · exact h.ok _ (List.mem_of_getElem? hb)
  · match j, hj with
    | 0, _ => simp [folAt]
    | 1, _ =>
      unfold folAt
      simp only [Nat.sub_self, List.getD_cons_zero, List.getD_cons_succ, List.take_succ_cons, List.take_zero]
      have : fol a b (hiL [a]) = true := fol_iff.2 ⟨h1.go (fun c hc => by
        obtain ⟨j, hj⟩ := List.getElem?_of_mem hc
        have := (okC_at (h.okC hb) hj).1; omega), h2⟩
      rw [this]; simp
theorem Ch.chain {l : List Sm} (h : Ch l) (hl : l.length ≤ 64) : chain l = 0 := chain_zero.2 ⟨hl, h.ok, h.ch⟩
theorem Ch.of {l : List Sm} (h : Ev.chain l = 0) : Ch l := by obtain ⟨_, h1, h2⟩ := chain_zero.1 h; exact ⟨h1, h2⟩
/-! ### rows that are carried -/
theorem seg_snoc {l : List Sm} {i n : Nat} {b : Sm} (hb : l[i + n + 1]? = some b) : (l.take (i + n + 2)).drop (i + 1) = (l.take (i + n + 1)).drop (i + 1) ++ [b] := by
  have hlt := (List.getElem?_eq_some_iff.1 hb).1
  rw [show i + n + 2 = (i + n + 1) + 1 from rfl, List.take_add_one, hb]
  rw [List.drop_append_of_le_length (by rw [List.length_take]; omega)]; rfl
def lastOf (a : List Co) : List Sm → List Co
  | [] => a
  | s :: t => lastOf s.1 t
theorem go_snoc : ∀ (t : List Sm) (a : List Co) (s : Sm) (r : List C), go a (t ++ [s]) r = mvd (lastOf a t) s.1 (go a t r)
  | [], a, s, r => rfl
  | x :: t, a, s, r => go_snoc t x.1 s _
theorem lastOf_snoc : ∀ (t : List Sm) (a : List Co) (s : Sm), lastOf a (t ++ [s]) = s.1
  | [], a, s => rfl
  | x :: t, a, s => lastOf_snoc t x.1 s
theorem go_append : ∀ (t u : List Sm) (a : List Co) (r : List C), go a (t ++ u) r = go (lastOf a t) u (go a t r)
  | [], u, a, r => rfl
  | x :: t, u, a, r => go_append t u x.1 _
theorem Ch.last {l : List Sm} (h : Ch l) {i : Nat} {a : Sm} (ha : l[i]? = some a) : ∀ (n : Nat) {b : Sm}, l[i + n]? = some b → lastOf a.1 ((l.take (i + n + 1)).drop (i + 1)) = b.1
  | 0, b, hb => by
    rw [Nat.add_zero, ha] at hb; injection hb with hb; subst hb
    rw [List.drop_eq_nil_of_le (by rw [List.length_take]; omega)]; rfl
  | n + 1, b, hb => by
    rw [show i + (n + 1) + 1 = i + n + 2 by omega, seg_snoc (by rw [← hb]; rfl), lastOf_snoc]
/-- A row that is carried is what it is if it is moved at once. -/
theorem Ch.carried {l : List Sm} (h : Ch l) {i : Nat} {a : Sm} (ha : l[i]? = some a) {r : List C} (hr : r.length = a.1.length) : ∀ (n : Nat) {b : Sm}, l[i + n]? = some b → go a.1 ((l.take (i + n + 1)).drop (i + 1)) r = mvd a.1 b.1 r
  | 0, b, hb => by
    rw [Nat.add_zero, ha] at hb; injection hb with hb; subst hb
    rw [List.drop_eq_nil_of_le (by rw [List.length_take]; omega), mvd_self (okC_rise (h.okC ha)) hr]; rfl
  | n + 1, b, hb => by
    obtain ⟨m, hm⟩ : ∃ m, l[i + n]? = some m := ⟨_, List.getElem?_eq_getElem (by have := (List.getElem?_eq_some_iff.1 hb).1; omega)⟩
    rw [show i + (n + 1) + 1 = i + n + 2 by omega, seg_snoc (by rw [← hb]; rfl), go_snoc, h.carried ha hr n hm, h.last ha n hm]
    exact mvd_mvd (h.T ha n hm).1 (fun d hd => mem_hi (l := l) (i := i) (n := i + n + 1) (by omega) ha hd) (fol_iff.1 (h.next hm hb)).1
end Go.Proofs.YtigcgkhcbmnboaaGreatDoor.Ev

/- The law's seeds of chains, plainly: they are chains; its rows of numbers are rows. -/
namespace Go.Proofs.YtigcgkhcbmnboaaGreatDoor.Ev
open Cl
set_option linter.unusedVariables false
set_option linter.unusedSimpArgs false
set_option maxRecDepth 100000

def kk (m : Nat) : Int := if m = 0 ∨ m = 5 ∨ m = 7 then 2 else if m = 1 then 3 else if m = 2 ∨ m = 6 then 4 else if m = 3 then 1 else 5
def ku (m : Nat) : Bool := decide (5 < m)
def dS : ByteArray := ⟨#[100]⟩
def kd (m : Nat) : C := if 5 < m then ⟨true, 0, ⟨#[]⟩⟩ else if kk m = 4 ∨ kk m = 5 then ⟨false, 0, ⟨#[100]⟩⟩ else ⟨false, 1, ⟨#[]⟩⟩
def knd (n : Int) : Nat := (n % 8).toNat
theorem knd_lt (n : Int) : knd n < 8 := by unfold knd; omega
def kcol (n id : Int) (nm : ByteArray) : Co := ⟨id, nm, kk (knd n), ku (knd n), kd (knd n)⟩
theorem kd_ok : ∀ m : Fin 8, chk (ku m.1) (kk m.1) (kd m.1) = 0 := by decide
theorem kd_n : ∀ m : Fin 8, 0 ≤ (kd m.1).n ∧ (kd m.1).n ≤ 1 := by decide
theorem kd_s : ∀ m : Fin 8, (kd m.1).s.size ≤ 1 := by decide
def cn (i : Nat) : ByteArray := ⟨#[99]⟩ ++ (⟨#[97, 98, 99, 100, 101, 102]⟩ : ByteArray).extract i (i + 1)
def nn (i : Nat) : ByteArray := ⟨#[110]⟩ ++ (⟨#[97, 98, 99, 100, 101, 102, 103]⟩ : ByteArray).extract i (i + 1)
/-- Which of the columns a name is of. -/
def ogL : List Nat → Nat
  | [_] => 0
  | [x, y] => if x = 99 then y - 96 else y - 90
  | _ => 100
def og (c : Co) : Nat := ogL (bl c.nm)
theorem cn_og : ∀ i : Fin 6, ogL (bl (cn i.1)) = i.1 + 1 := by decide
theorem nn_og : ∀ i : Fin 7, ogL (bl (nn i.1)) = i.1 + 7 := by decide
theorem cn_name : ∀ i : Fin 6, Sc.name (bl (cn i.1)) = true := by decide
theorem nn_name : ∀ i : Fin 7, Sc.name (bl (nn i.1)) = true := by decide
theorem cn_size : ∀ i : Fin 6, (cn i.1).size ≤ 2 := by decide
theorem nn_size : ∀ i : Fin 7, (nn i.1).size ≤ 2 := by decide
def key0 : Co := ⟨1, ⟨#[107]⟩, 2, false, ⟨false, 0, ⟨#[]⟩⟩⟩
def base (C : List Int) : Nat → List Co
  | 0 => [key0]
  | i + 1 => base C i ++ [kcol (C.getD i 0) (i + 2) (cn i)]
structure V3 where
  a : Int
  b : Int
  c : Int
def bit (g k : Nat) : Bool := decide (g / 2 ^ k % 2 = 1)
def wid (w k : Nat) (c : Co) : Co := if (bit w k && decide (c.k = 2)) = true then ⟨c.id, c.nm, 3, c.u, c.d⟩ else c
def gone (g k : Nat) : Bool := decide (0 < k) && bit g k
def keepF (g w : Nat) : Nat → List Co → List Co
  | _, [] => []
  | k, c :: t => if gone g k = true then keepF g w (k + 1) t else wid w k c :: keepF g w (k + 1) t
theorem keepF_snoc (g w : Nat) : ∀ (l : List Co) (k : Nat) (c : Co), keepF g w k (l ++ [c]) = keepF g w k l ++ (if gone g (k + l.length) = true then [] else [wid w (k + l.length) c])
  | [], k, c => by
    unfold keepF
    simp only [List.nil_append, List.length_nil, Nat.add_zero]
    split <;> simp [keepF]
  | x :: t, k, c => by
    have ih := keepF_snoc g w t (k + 1) c
    rw [List.cons_append]
    unfold keepF
    rw [ih, List.length_cons, show k + 1 + t.length = k + (t.length + 1) by omega]
    split <;> simp
def b16 (n : Int) : Nat := (n % 65536).toNat
structure VS where
  s : List Co
  id : Int
def vkeep (v : V3) (s : List Co) : List Co := keepF (b16 v.a) (b16 v.b) 0 (s.take 14)
def vstep (i : Nat) (v : V3) (x : VS) : VS :=
  if v.c.tmod 2 ≠ 0 then ⟨vkeep v x.s ++ [kcol (v.c.tdiv 2) (x.id + 1 + (b16 v.a % 2 : Nat)) (nn i)], x.id + 1 + (b16 v.a % 2 : Nat)⟩ else ⟨vkeep v x.s, x.id⟩
structure VO where
  x : VS
  out : List Sm
def v30 : V3 := ⟨0, 0, 0⟩
def vers (s0 : List Co) (id0 : Int) (V : List V3) : Nat → VO
  | 0 => ⟨⟨s0, id0⟩, [(s0, [0])]⟩
  | i + 1 => ⟨vstep i (V.getD i v30) (vers s0 id0 V i).x, (vers s0 id0 V i).out ++ [((vstep i (V.getD i v30) (vers s0 id0 V i).x).s, [0])]⟩
def mkch (C : List Int) (V : List V3) : List Sm := (vers (base C (min C.length 6)) (1 + (min C.length 6 : Nat)) V (min V.length 7)).out

/-! ### they are chains -/
/-- A column that may be one of a chain with ids up to n, and origins below o. -/
structure CO (n : Int) (o : Nat) (c : Co) : Prop where
  id0 : 1 ≤ c.id
  id1 : c.id ≤ n
  og : og c < o
  nm : Sc.name (bl c.nm) = true
  ck : chk c.u c.k c.d = 0
  n0 : 0 ≤ c.d.n ∧ c.d.n ≤ 1
  s1 : c.d.s.size ≤ 1
  m2 : c.nm.size ≤ 2
def Up (c d : Co) : Prop := c.id < d.id ∧ og c < og d
theorem CO.mono {n m : Int} {o p : Nat} {c : Co} (h : CO n o c) (h1 : n ≤ m) (h2 : o ≤ p) : CO m p c := ⟨h.id0, by have := h.id1; omega, by have := h.og; omega, h.nm, h.ck, h.n0, h.s1, h.m2⟩
structure CL (n : Int) (o : Nat) (l : List Co) : Prop where
  co : ∀ c ∈ l, CO n o c
  up : l.Pairwise Up
  hd : ∃ c t, l = c :: t ∧ c.id = 1 ∧ c.u = false ∧ (c.k = 2 ∨ c.k = 3)
theorem Up.rise {l : List Co} (h : l.Pairwise Up) : Rise l := fun i j c d hij hc hd => by
  obtain ⟨hi, rfl⟩ := List.getElem?_eq_some_iff.1 hc
  obtain ⟨hj, rfl⟩ := List.getElem?_eq_some_iff.1 hd
  exact (List.pairwise_iff_getElem.1 h i j hi hj hij).1
theorem CL.okC {n : Int} {o : Nat} {l : List Co} (h : CL n o l) (hn : n ≤ 1048576) (hl : l.length ≤ 32) : Sc.okC l = true := by
  have hr := Up.rise h.up
  refine Sc.okC_iff.2 ⟨⟨?_, hl⟩, fun i c hc => ?_⟩
  · obtain ⟨c, t, e, _⟩ := h.hd; rw [e]; simp
  have hco := h.co c (List.mem_of_getElem? hc)
  refine Sc.okAt_parts.2 ⟨⟨?_, by have := hco.id1; omega⟩, hco.nm, hco.ck, ?_⟩
  · unfold Sc.least
    split
    · exact hco.id0
    · next h0 =>
      obtain ⟨d, hd⟩ : ∃ d, l[i - 1]? = some d := ⟨_, List.getElem?_eq_getElem (by have := (List.getElem?_eq_some_iff.1 hc).1; omega)⟩
      rw [Sc.getD_of hd]
      have := hr (i - 1) i d c (by omega) hd hc
      omega
  · unfold Sc.fresh
    rw [List.all_eq_true]
    intro x hx
    obtain ⟨j, hj⟩ := List.getElem?_of_mem hx
    have hji : j < i := by have := (List.getElem?_eq_some_iff.1 hj).1; simp at this; omega
    rw [List.getElem?_take_of_lt hji] at hj
    obtain ⟨h1, rfl⟩ := List.getElem?_eq_some_iff.1 hj
    obtain ⟨h2, rfl⟩ := List.getElem?_eq_some_iff.1 hc
    have := (List.pairwise_iff_getElem.1 h.up j i h1 h2 hji).2
    rw [decide_eq_true_eq]
    intro e
    unfold og at this
    rw [e] at this; omega
theorem CL.okK {n : Int} {o : Nat} {l : List Co} (h : CL n o l) : Sc.okK l [0] = true := by
  obtain ⟨c, t, rfl, _, hu, _⟩ := h.hd
  refine Sc.okK_iff.2 ⟨by simp, fun i k hk => ?_⟩
  match i with
  | 0 =>
    simp at hk; subst hk
    unfold Sc.okKAt Sc.leastK
    simp [hu]
  | i + 1 => simp at hk
theorem CL.ck {n : Int} {o : Nat} {l : List Co} (h : CL n o l) (hn : n ≤ 1048576) (hl : l.length ≤ 32) : Sc.ck l [0] = 0 := Sc.ck_ok (h.okC hn hl) h.okK
theorem kidF_zero : ∀ (l : List Co) (i : Nat), kidF [0] (i + 1) l = []
  | [], i => rfl
  | c :: t, i => by
    unfold kidF
    rw [if_neg (by simp; omega)]
    exact kidF_zero t (i + 1)
theorem CL.kid {n : Int} {o : Nat} {l : List Co} (h : CL n o l) : kid (l, [0]) = [1] := by
  obtain ⟨c, t, rfl, hc, _⟩ := h.hd
  unfold Ev.kid kidF
  rw [if_pos (by simp), kidF_zero, hc]
theorem kcol_co (n id : Int) (nm : ByteArray) (o : Nat) (h0 : 1 ≤ id) (h1 : ogL (bl nm) < o) (h2 : Sc.name (bl nm) = true) (h3 : nm.size ≤ 2) : CO id o (kcol n id nm) :=
  ⟨h0, Int.le_refl _, h1, h2, kd_ok ⟨knd n, knd_lt n⟩, kd_n ⟨knd n, knd_lt n⟩, kd_s ⟨knd n, knd_lt n⟩, h3⟩
theorem CL.snoc {n m : Int} {o p : Nat} {l : List Co} {c : Co} (h : CL n o l) (hc : CO m p c) (hn : n < c.id) (ho : o ≤ og c) (hm : c.id ≤ m) : CL m p (l ++ [c]) := by
  refine ⟨fun d hd => ?_, ?_, ?_⟩
  · rcases List.mem_append.1 hd with hd | hd
    · have := hc.og
      exact (h.co d hd).mono (by omega) (by omega)
    · have : d = c := by simpa using hd
      rw [this]; exact hc
  · refine List.pairwise_append.2 ⟨h.up, by simp, fun a ha b hb => ?_⟩
    have : b = c := by simpa using hb
    subst this
    have h1 := (h.co a ha).id1
    have h2 := (h.co a ha).og
    exact ⟨by omega, by omega⟩
  · obtain ⟨c0, t, e, h1, h2, h3⟩ := h.hd
    exact ⟨c0, t ++ [c], by rw [e]; rfl, h1, h2, h3⟩
theorem base_cl (C : List Int) : ∀ i, i ≤ 6 → CL (1 + (i : Nat)) (i + 1) (base C i) ∧ (base C i).length = i + 1
  | 0, _ => by
    refine ⟨⟨fun c hc => ?_, by simp [base], ⟨key0, [], rfl, rfl, rfl, .inl rfl⟩⟩, rfl⟩
    have : c = key0 := by simpa [base] using hc
    subst this
    exact ⟨by decide, by decide, by decide, by decide, by decide, by decide, by decide, by decide⟩
  | i + 1, hi => by
    obtain ⟨ih, hl⟩ := base_cl C i (by omega)
    refine ⟨?_, by unfold base; simp [hl]⟩
    have h1 := cn_og ⟨i, by omega⟩
    unfold base
    refine ih.snoc ((kcol_co _ (i + 2) (cn i) (i + 1 + 1) (by omega) (by rw [h1]; simp) (cn_name ⟨i, by omega⟩) (cn_size ⟨i, by omega⟩)).mono (by omega) (Nat.le_refl _)) ?_ ?_ ?_
    · show (1 : Int) + (i : Nat) < (i : Int) + 2; omega
    · show i + 1 ≤ ogL (bl (cn i)); rw [h1]; simp
    · show (i : Int) + 2 ≤ _; omega
theorem wid_is (w k : Nat) (c : Co) (hk : chk c.u c.k c.d = 0) : St c (wid w k c) ∧ (wid w k c).id = c.id ∧ chk (wid w k c).u (wid w k c).k (wid w k c).d = 0 := by
  unfold wid
  split
  · next h =>
    simp only [Bool.and_eq_true, decide_eq_true_eq] at h
    refine ⟨⟨rfl, rfl, rfl, .inr ⟨h.2, rfl⟩⟩, rfl, ?_⟩
    rw [h.2] at hk
    exact chk_wide hk
  · exact ⟨.refl c, rfl, hk⟩
theorem keepF_mem (g w : Nat) : ∀ (l : List Co) (k : Nat), ∀ c' ∈ keepF g w k l, ∃ c ∈ l, ∃ j, c' = wid w j c
  | [], k, c', h => by simp [keepF] at h
  | x :: t, k, c', h => by
    unfold keepF at h
    split at h
    · obtain ⟨c, hc, j, e⟩ := keepF_mem g w t (k + 1) c' h
      exact ⟨c, List.mem_cons_of_mem _ hc, j, e⟩
    · rcases List.mem_cons.1 h with rfl | h
      · exact ⟨x, by simp, k, rfl⟩
      · obtain ⟨c, hc, j, e⟩ := keepF_mem g w t (k + 1) c' h
        exact ⟨c, List.mem_cons_of_mem _ hc, j, e⟩
theorem wid_up (w k : Nat) (c : Co) : (wid w k c).id = c.id ∧ og (wid w k c) = og c ∧ (wid w k c).nm = c.nm ∧ (wid w k c).u = c.u ∧ (wid w k c).d = c.d := by unfold wid og; split <;> exact ⟨rfl, rfl, rfl, rfl, rfl⟩
theorem keepF_up (g w : Nat) : ∀ (l : List Co) (k : Nat), l.Pairwise Up → (keepF g w k l).Pairwise Up
  | [], k, _ => by simp [keepF]
  | x :: t, k, h => by
    obtain ⟨h1, h2⟩ := List.pairwise_cons.1 h
    have ih := keepF_up g w t (k + 1) h2
    unfold keepF
    split
    · exact ih
    · refine List.pairwise_cons.2 ⟨fun a ha => ?_, ih⟩
      obtain ⟨c, hc, j, rfl⟩ := keepF_mem g w t (k + 1) a ha
      have := h1 c hc
      obtain ⟨e1, e2, _⟩ := wid_up w k x
      obtain ⟨e3, e4, _⟩ := wid_up w j c
      exact ⟨by rw [e1, e3]; exact this.1, by rw [e2, e4]; exact this.2⟩
theorem keepF_len (g w : Nat) : ∀ (l : List Co) (k : Nat), (keepF g w k l).length ≤ l.length
  | [], k => by simp [keepF]
  | x :: t, k => by
    have := keepF_len g w t (k + 1)
    unfold keepF
    split <;> simp <;> omega
theorem CL.keep {n : Int} {o : Nat} {l : List Co} (h : CL n o l) (v : V3) : CL n o (vkeep v l) := by
  obtain ⟨c0, t, e, h1, h2, h3⟩ := h.hd
  have ht : l.take 14 = c0 :: t.take 13 := by rw [e]; rfl
  refine ⟨fun c' hc' => ?_, ?_, ?_⟩
  · obtain ⟨c, hc, j, rfl⟩ := keepF_mem _ _ _ _ c' hc'
    have hco := h.co c (List.mem_of_mem_take hc)
    obtain ⟨e1, e2, e3, e4, e5⟩ := wid_up (b16 v.b) j c
    exact ⟨by rw [e1]; exact hco.id0, by rw [e1]; exact hco.id1, by rw [e2]; exact hco.og, by rw [e3]; exact hco.nm, (wid_is _ _ _ hco.ck).2.2, by rw [e5]; exact hco.n0, by rw [e5]; exact hco.s1, by rw [e3]; exact hco.m2⟩
  · exact keepF_up _ _ _ _ (h.up.sublist (List.take_sublist _ _))
  · unfold vkeep
    rw [ht]
    unfold keepF
    rw [if_neg (by simp [gone])]
    refine ⟨_, _, rfl, ?_, ?_, ?_⟩
    · rw [(wid_up _ _ _).1]; exact h1
    · rw [(wid_up _ _ _).2.2.2.1]; exact h2
    · unfold wid
      split
      · exact .inr rfl
      · exact h3
theorem keep_go {n h : Int} {o : Nat} {l : List Co} (hl : CL n o l) (v : V3) : ∀ c ∈ vkeep v l, goAt l h c = true := fun c' hc' => by
  obtain ⟨c, hc, j, rfl⟩ := keepF_mem _ _ _ _ c' hc'
  have hm := List.mem_of_mem_take hc
  obtain ⟨i, hi⟩ := List.getElem?_of_mem hm
  have hw := wid_is (b16 v.b) j c (hl.co c hm).ck
  refine goAt_iff.2 (.inl ⟨i, c, ?_, hi, hw.1⟩)
  rw [hw.2.1]
  exact fid_at (Up.rise hl.up) hi
theorem getD_app {l : List Sm} {x : Sm} {i : Nat} (h : i < l.length) : (l ++ [x]).getD i sm0 = l.getD i sm0 := by rw [List.getD_eq_getElem?_getD, List.getD_eq_getElem?_getD, List.getElem?_append_left h]
theorem isCh_snoc {l : List Sm} {a x : Sm} (h : isCh l = true) (hl : l[l.length - 1]? = some a) (hf : fol a x (hiL l) = true) : isCh (l ++ [x]) = true := by
  refine isCh_iff.2 fun i hi => ?_
  have hlt := (List.getElem?_eq_some_iff.1 hl).1
  rcases Nat.lt_or_ge i l.length with h1 | h1
  · have := isCh_iff.1 h i h1
    unfold folAt at this ⊢
    rw [List.take_append_of_le_length (by omega), getD_app h1, getD_app (show i - 1 < l.length by omega)]
    exact this
  · obtain rfl : i = l.length := by simp at hi; omega
    have e3 : (l ++ [x]).getD (l.length - 1) sm0 = a := by rw [getD_app hlt, getD_at hl]
    have e4 : (l ++ [x]).getD l.length sm0 = x := getD_at (by simp)
    unfold folAt
    rw [List.take_append_of_le_length (Nat.le_refl _), List.take_length, e3, e4, hf]; simp
structure VI (i : Nat) (y : VO) : Prop where
  cl : CL y.x.id (7 + i) y.x.s
  id : y.x.id ≤ 7 + 2 * (i : Nat)
  sl : y.x.s.length ≤ 7 + i
  ol : y.out.length = i + 1
  last : y.out[i]? = some (y.x.s, [0])
  ch : Ch y.out
  hi : hiL y.out ≤ y.x.id
  all : ∀ p ∈ y.out, p.2 = [0] ∧ p.1.length ≤ 14 ∧ ∃ (n : Int) (o : Nat), n ≤ 21 ∧ CL n o p.1
theorem VI.step {i : Nat} {y : VO} (h : VI i y) (hi : i < 7) (v : V3) : VI (i + 1) ⟨vstep i v y.x, y.out ++ [((vstep i v y.x).s, [0])]⟩ := by
  have hk := h.cl.keep v
  have hkl : (vkeep v y.x.s).length ≤ y.x.s.length := by
    have := keepF_len (b16 v.a) (b16 v.b) (y.x.s.take 14) 0
    rw [List.length_take] at this
    unfold vkeep; omega
  have hid0 : 0 ≤ y.x.id := by
    obtain ⟨c0, t, e, h1, _⟩ := h.cl.hd
    have := (h.cl.co c0 (by rw [e]; simp)).id1
    omega
  have key : ∀ x' : VS, x' = vstep i v y.x → CL x'.id (7 + (i + 1)) x'.s ∧ y.x.id ≤ x'.id ∧ x'.id ≤ y.x.id + 2 ∧ x'.s.length ≤ y.x.s.length + 1 ∧ ∀ c ∈ x'.s, goAt y.x.s (hiL y.out) c = true := fun x' e => by
    have h1 := nn_og ⟨i, hi⟩
    unfold vstep at e
    split at e
    · subst e
      have hg : ((b16 v.a % 2 : Nat) : Int) ≤ 1 := by omega
      have hg0 : (0 : Int) ≤ ((b16 v.a % 2 : Nat) : Int) := by omega
      generalize ((b16 v.a % 2 : Nat) : Int) = q at *
      refine ⟨?_, by simp only; omega, by simp only; omega, by simp; omega, fun c hc => ?_⟩
      · refine hk.snoc (kcol_co (v.c.tdiv 2) (y.x.id + 1 + q) (nn i) (7 + (i + 1)) (by omega) (by rw [h1]; simp only; omega) (nn_name ⟨i, hi⟩) (nn_size ⟨i, hi⟩)) ?_ ?_ (Int.le_refl _)
        · show y.x.id < y.x.id + 1 + q; omega
        · show 7 + i ≤ ogL (bl (nn i)); rw [h1]; simp only; omega
      · rcases List.mem_append.1 hc with hc | hc
        · exact keep_go h.cl v c hc
        · have : c = kcol (v.c.tdiv 2) (y.x.id + 1 + q) (nn i) := by simpa using hc
          subst this
          have h2 := h.hi
          refine goAt_iff.2 (.inr ⟨fid_not fun d hd e => ?_, ?_⟩)
          · have := (h.cl.co d hd).id1
            have e : d.id = y.x.id + 1 + q := e
            omega
          · show hiL y.out < y.x.id + 1 + q; omega
    · subst e
      exact ⟨⟨fun c hc => (hk.co c hc).mono (Int.le_refl _) (by omega), hk.up, hk.hd⟩, Int.le_refl _, by simp only; omega, by simp only; omega, fun c hc => keep_go h.cl v c hc⟩
  obtain ⟨x', hx'⟩ : ∃ x', x' = vstep i v y.x := ⟨_, rfl⟩
  rw [← hx']
  obtain ⟨k1, k2, k3, k4, k5⟩ := key x' hx'
  have hidb := h.id
  have hsl := h.sl
  have hck : Sc.ck x'.s [0] = 0 := k1.ck (by omega) (by omega)
  refine ⟨k1, by simp only; omega, by simp only; omega, by simp [h.ol], ?_, ⟨fun s hs => ?_, ?_⟩, ?_, fun p hp => ?_⟩
  · simp only
    rw [List.getElem?_append_right (by rw [h.ol]; omega), h.ol]; simp
  · simp only at hs
    rcases List.mem_append.1 hs with hs | hs
    · exact h.ch.ok s hs
    · have : s = (x'.s, [0]) := by simpa using hs
      rw [this]; exact hck
  · refine isCh_snoc h.ch.ch (a := (y.x.s, [0])) (by rw [h.ol]; exact h.last) (fol_iff.2 ⟨k5, ?_⟩)
    rw [h.cl.kid, k1.kid]
  · simp only
    rw [hiL_snoc]
    have h3 := h.hi
    have : Ev.hi (hiL y.out) x'.s < x'.id + 1 := hi_lt.2 ⟨by omega, fun c hc => by have := (k1.co c hc).id1; omega⟩
    show Ev.hi (hiL y.out) x'.s ≤ x'.id
    omega
  · simp only at hp
    rcases List.mem_append.1 hp with hp | hp
    · exact h.all p hp
    · have : p = (x'.s, [0]) := by simpa using hp
      rw [this]
      exact ⟨rfl, by simp only; omega, x'.id, 7 + (i + 1), by omega, k1⟩
theorem vers_vi (C : List Int) (V : List V3) (n : Nat) (hn : n ≤ 6) : ∀ i, i ≤ 7 → VI i (vers (base C n) (1 + (n : Nat)) V i)
  | 0, _ => by
    obtain ⟨h1, h2⟩ := base_cl C n hn
    have hcl : CL (1 + (n : Nat)) (7 + 0) (base C n) := ⟨fun c hc => (h1.co c hc).mono (Int.le_refl _) (by omega), h1.up, h1.hd⟩
    refine ⟨hcl, ?_, ?_, rfl, rfl, ⟨fun s hs => ?_, isCh_iff.2 fun i hi => ?_⟩, ?_, fun p hp => ?_⟩
    · show (1 : Int) + (n : Nat) ≤ 7 + 2 * ((0 : Nat) : Int); omega
    · show (base C n).length ≤ 7 + 0; omega
    · have : s = (base C n, [0]) := by simpa [vers] using hs
      rw [this]; exact h1.ck (by omega) (by show (base C n).length ≤ 32; omega)
    · have : i = 0 := by simp [vers] at hi; omega
      subst this; simp [folAt]
    · show hiL [(base C n, [0])] ≤ 1 + (n : Nat)
      have : hiL [(base C n, [0])] < 1 + (n : Nat) + 1 := hiL_lt.2 ⟨by omega, fun s hs c hc => by
        have : s = (base C n, [0]) := by simpa using hs
        subst this
        have := (h1.co c hc).id1; omega⟩
      omega
    · have : p = (base C n, [0]) := by simpa [vers] using hp
      rw [this]; exact ⟨rfl, by show (base C n).length ≤ 14; omega, 1 + (n : Nat), n + 1, by omega, h1⟩
  | i + 1, hi => (vers_vi C V n hn i (by omega)).step (by omega) (V.getD i v30)
structure MkIs (l : List Sm) : Prop where
  len0 : 1 ≤ l.length
  len : l.length ≤ 8
  ch : Ch l
  all : ∀ p ∈ l, p.2 = [0] ∧ p.1.length ≤ 14 ∧ ∃ (n : Int) (o : Nat), n ≤ 21 ∧ CL n o p.1
theorem mkch_is (C : List Int) (V : List V3) : MkIs (mkch C V) := by
  have h := vers_vi C V (min C.length 6) (by omega) (min V.length 7) (by omega)
  unfold mkch
  exact ⟨by rw [h.ol]; omega, by rw [h.ol]; omega, h.ch, h.all⟩

/-! ### rows by numbers -/
def eight : ByteArray := ⟨#[97, 98, 99, 100, 101, 102, 103, 104]⟩
def cellP (c : Co) (n : Int) : C :=
  if (c.u && decide (n % 3 = 0)) = true then ⟨true, 0, ⟨#[]⟩⟩ else if c.k = 1 then ⟨false, n % 2, ⟨#[]⟩⟩ else if c.k = 2 then ⟨false, n % 4294967296 - 2147483648, ⟨#[]⟩⟩
  else if c.k = 3 then ⟨false, n, ⟨#[]⟩⟩ else ⟨false, 0, eight.extract 0 (n % 9).toNat⟩
theorem eight_vld : ∀ m : Fin 9, Utf.vld (bl (eight.extract 0 m.1)) = true := by decide
theorem eight_size (n : Int) : (eight.extract 0 (n % 9).toNat).size ≤ 8 := by
  rw [ByteArray.size_extract, show eight.size = 8 from rfl]; omega
theorem cellP_ok (c : Co) (n : Int) (hc : chk c.u c.k c.d = 0) : chk c.u c.k (cellP c n) = 0 := by
  obtain ⟨h1, _⟩ := chk_ok hc
  have hm := may_le h1
  have ho : of c.u c.k (cellP c n) = true := by
    unfold cellP
    split
    · next h =>
      simp only [Bool.and_eq_true] at h
      unfold of none?
      rw [h.1]; simp [bl]
    · have h9 := eight_vld ⟨(n % 9).toNat, by omega⟩
      have h8 := eight_size n
      simp only at h9
      rcases (show c.k = 1 ∨ c.k = 2 ∨ c.k = 3 ∨ c.k = 4 ∨ c.k = 5 by omega) with e | e | e | e | e <;> rw [e] <;> unfold of isK <;> simp [bl]
      · omega
      · omega
      · exact .inr ⟨by omega, by simpa [bl] using h9⟩
      · exact .inr (by omega)
  unfold chk
  rw [h1, ho]; rfl
theorem cellP_i64 (c : Co) (n : Int) (h : I64 n) : I64 (cellP c n).n := by
  unfold cellP I64 at *
  repeat' split
  all_goals (simp only; omega)
theorem cellP_size (c : Co) (n : Int) : (cellP c n).s.size ≤ 8 := by
  have := eight_size n
  unfold cellP
  repeat' split
  all_goals first | (simp only; exact this) | (simp only; decide)
def numAt (n : List Int) (i : Nat) : Int := if n.length = 0 then (i : Int) else n.getD (i % n.length) 0
def rowF (n : List Int) : Nat → List Co → List C
  | _, [] => []
  | i, c :: t => cellP c (numAt n i) :: rowF n (i + 1) t
theorem rowF_len (n : List Int) : ∀ (l : List Co) (i : Nat), (rowF n i l).length = l.length
  | [], i => rfl
  | c :: t, i => by unfold rowF; simp [rowF_len n t (i + 1)]
theorem rowF_at (n : List Int) : ∀ (l : List Co) (i j : Nat) (c : Co), l[j]? = some c → (rowF n i l)[j]? = some (cellP c (numAt n (i + j)))
  | [], i, j, c, h => by simp at h
  | x :: t, i, 0, c, h => by simp at h; subst h; rfl
  | x :: t, i, j + 1, c, h => by
    unfold rowF
    rw [List.getElem?_cons_succ, rowF_at n t (i + 1) j c (by simpa using h), show i + 1 + j = i + (j + 1) by omega]
theorem rowF_ok (n : List Int) (l : List Co) (h : ∀ c ∈ l, chk c.u c.k c.d = 0) : Rw.chkR (tys l) (rowF n 0 l) = 0 := by
  refine chkR_zero.2 ⟨by rw [rowF_len, tys_len], fun i t c ht hc => ?_⟩
  unfold tys at ht
  rw [List.getElem?_map] at ht
  cases hx : l[i]? with
  | none => rw [hx] at ht; cases ht
  | some x =>
    rw [hx] at ht; injection ht with ht; subst ht
    rw [rowF_at n l 0 i x hx] at hc
    injection hc with hc; subst hc
    exact cellP_ok x _ (h x (List.mem_of_getElem? hx))
theorem numAt_i64 (n : List Int) (i : Nat) (hi : i ≤ 1000000) (h : ∀ x ∈ n, I64 x) : I64 (numAt n i) := by
  unfold numAt
  split
  · unfold I64; omega
  · next h0 =>
    obtain ⟨x, hx⟩ : ∃ x, n[i % n.length]? = some x := ⟨_, List.getElem?_eq_getElem (Nat.mod_lt _ (by omega))⟩
    rw [Sc.getD_of hx]
    exact h x (List.mem_of_getElem? hx)
theorem rowF_all (n : List Int) (l : List Co) (hl : l.length ≤ 1000000) (h : ∀ x ∈ n, I64 x) : ∀ c ∈ rowF n 0 l, I64 c.n ∧ c.s.size ≤ 8 := fun c hc => by
  obtain ⟨j, hj⟩ := List.getElem?_of_mem hc
  have hlt := (List.getElem?_eq_some_iff.1 hj).1
  rw [rowF_len] at hlt
  obtain ⟨x, hx⟩ : ∃ x, l[j]? = some x := ⟨_, List.getElem?_eq_getElem hlt⟩
  rw [rowF_at n l 0 j x hx] at hj
  injection hj with hj; subst hj
  exact ⟨cellP_i64 x _ (numAt_i64 n _ (by omega) h), cellP_size x _⟩
end Go.Proofs.YtigcgkhcbmnboaaGreatDoor.Ev

/- Evolve, plainly: what the laws' walks want: rows carried along a chain, in one go, in two, at once. -/
namespace Go.Proofs.YtigcgkhcbmnboaaGreatDoor.Ev
open Cl
set_option linter.unusedVariables false
set_option linter.unusedSimpArgs false

theorem ok_len {a : List Co} {r : List C} (h : Rw.chkR (tys a) r = 0) : r.length = a.length := by
  have := (chkR_zero.1 h).1
  rw [tys_len] at this
  exact this
theorem seg_app (l : List Sm) (p q s : Nat) (hp : p ≤ q) (hq : q ≤ s) (hl : q < l.length) : (l.take (s + 1)).drop (p + 1) = (l.take (q + 1)).drop (p + 1) ++ (l.take (s + 1)).drop (q + 1) := by
  have e := List.take_append_drop (q + 1) (l.take (s + 1))
  rw [List.take_take, Nat.min_eq_left (by omega)] at e
  have e2 := congrArg (List.drop (p + 1)) e
  rw [List.drop_append_of_le_length (by rw [List.length_take]; omega)] at e2
  exact e2.symm
theorem Ch.moved_ok {l : List Sm} (h : Ch l) {i n : Nat} {a b : Sm} (ha : l[i]? = some a) (hb : l[i + n]? = some b) {r : List C} (hr : Rw.chkR (tys a.1) r = 0) : Rw.chkR (tys b.1) (mvd a.1 b.1 r) = 0 :=
  mvd_ok (h.T ha n hb).1 hr (h.okC hb)
theorem Ch.parts {l : List Sm} (h : Ch l) {i n m : Nat} {a b c : Sm} (ha : l[i]? = some a) (hb : l[i + n]? = some b) (hc : l[i + n + m]? = some c) {r : List C} (hr : Rw.chkR (tys a.1) r = 0) : mvd b.1 c.1 (mvd a.1 b.1 r) = mvd a.1 c.1 r := by
  have hlt := (List.getElem?_eq_some_iff.1 hb).1
  have h1 := h.carried ha (ok_len hr) n hb
  have h2 := h.carried hb (ok_len (h.moved_ok ha hb hr)) m hc
  have h3 := h.carried ha (ok_len hr) (n + m) (b := c) (by rw [← hc, Nat.add_assoc])
  rw [show i + (n + m) + 1 = (i + n + m) + 1 by omega, seg_app l i (i + n) (i + n + m) (by omega) (by omega) hlt, go_append, h1, h.last ha n hb, h2] at h3
  exact h3
/-- A row of numbers is a row of a chain's columns. -/
theorem MkIs.row {l : List Sm} (h : MkIs l) {i : Nat} {a : Sm} (ha : l[i]? = some a) (n : List Int) : Rw.chkR (tys a.1) (rowF n 0 a.1) = 0 :=
  rowF_ok n a.1 fun c hc => by
    obtain ⟨_, _, m, o, _, hcl⟩ := h.all a (List.mem_of_getElem? ha)
    exact (hcl.co c hc).ck
/-- What a row's cells are bounded by. -/
def Small (r : List C) : Prop := ∀ c ∈ r, I64 c.n ∧ c.s.size ≤ 8
theorem MkIs.small {l : List Sm} (h : MkIs l) {i : Nat} {a : Sm} (ha : l[i]? = some a) (n : List Int) (hn : ∀ x ∈ n, I64 x) : Small (rowF n 0 a.1) :=
  rowF_all n a.1 (by have := (h.all a (List.mem_of_getElem? ha)).2.1; omega) hn
theorem Small.moved {l : List Sm} (h : MkIs l) {i : Nat} {a b : Sm} {r : List C} (hr : Small r) (hb : l[i]? = some b) : Small (mvd a.1 b.1 r) := fun c hc => by
  obtain ⟨j, hj⟩ := List.getElem?_of_mem hc
  have hlt := (List.getElem?_eq_some_iff.1 hj).1
  rw [mvd_len] at hlt
  obtain ⟨x, hx⟩ : ∃ x, b.1[j]? = some x := ⟨_, List.getElem?_eq_getElem hlt⟩
  rw [mvd_at hx] at hj
  injection hj with hj
  subst hj
  unfold mv1
  split
  · rw [List.getD_eq_getElem?_getD]
    cases e : r[(fid a.1 x.id).1]? with
    | none => exact ⟨by unfold I64; decide, by decide⟩
    | some y => exact hr y (List.mem_of_getElem? e)
  · obtain ⟨_, _, m, o, _, hcl⟩ := h.all b (List.mem_of_getElem? hb)
    have hco := hcl.co x (List.mem_of_getElem? hx)
    have h1 := hco.n0
    have h2 := hco.s1
    exact ⟨by unfold I64; omega, by omega⟩
end Go.Proofs.YtigcgkhcbmnboaaGreatDoor.Ev

/- Evolve, plainly: a row that is moved has the same key. -/
namespace Go.Proofs.YtigcgkhcbmnboaaGreatDoor.Ev
open Cl
set_option linter.unusedVariables false
set_option linter.unusedSimpArgs false

theorem body_23 (k q : Int) (c : C) (h : k = 2 ∨ k = 3) (h2 : q = 2 ∨ q = 3) : body k c = body q c := by
  rcases h with rfl | rfl <;> rcases h2 with rfl | rfl <;> rfl
theorem key_len (k : Int) (c : C) (h : k = 2 ∨ k = 3) : (bts false k c).length ≤ 9 := by
  unfold bts
  split
  · simp
  · rcases h with rfl | rfl <;> simp [body, be]
theorem key_one {cs : List Co} {r : List C} (hc : ∃ c t, cs = c :: t ∧ c.id = 1 ∧ c.u = false ∧ (c.k = 2 ∨ c.k = 3)) (hr : Rw.chkR (tys cs) r = 0) : ∃ k, (k = 2 ∨ k = 3) ∧ Rw.keyR (tys cs) [0] r = (0, bts false k (r.getD 0 Cl.empty)) ∧ Rw.key (tys cs) [0] r = bts false k (r.getD 0 Cl.empty) := by
  obtain ⟨c, t, rfl, _, hu, hk⟩ := hc
  have hl := ok_len hr
  have hok : Rw.okP [0] r.length = true := by unfold Rw.okP; simp; rw [hl]; simp
  have hky : Rw.key (tys (c :: t)) [0] r = bts false c.k (r.getD 0 Cl.empty) := by
    unfold Rw.key Rw.kAt Rw.tAt Rw.cAt tys
    simp [hu]
  refine ⟨c.k, hk, ?_, hky⟩
  unfold Rw.keyR
  rw [if_neg (by rw [hr]; simp), hok, if_neg (by decide), hky]
theorem MkIs.key {l : List Sm} (h : MkIs l) {i m : Nat} {a b : Sm} (ha : l[i]? = some a) (hb : l[i + m]? = some b) {r : List C} (hr : Rw.chkR (tys a.1) r = 0) :
    ∃ q, Rw.keyR (tys a.1) a.2 r = (0, q) ∧ Rw.keyR (tys b.1) b.2 (mvd a.1 b.1 r) = (0, q) ∧ (Rw.key (tys a.1) a.2 r).length ≤ 1000000 ∧ (Rw.key (tys b.1) b.2 (mvd a.1 b.1 r)).length ≤ 1000000 := by
  obtain ⟨a2, _, _, _, _, acl⟩ := h.all a (List.mem_of_getElem? ha)
  obtain ⟨b2, _, _, _, _, bcl⟩ := h.all b (List.mem_of_getElem? hb)
  obtain ⟨k, hk, h1, h1'⟩ := key_one acl.hd hr
  obtain ⟨q, hq, h2, h2'⟩ := key_one bcl.hd (h.ch.moved_ok ha hb hr)
  rw [a2, b2]
  have e : (mvd a.1 b.1 r).getD 0 Cl.empty = r.getD 0 Cl.empty := by
    obtain ⟨c, t, ec, hc, _⟩ := bcl.hd
    obtain ⟨d, s, ed, hd, _⟩ := acl.hd
    have hx : b.1[0]? = some c := by rw [ec]; rfl
    rw [List.getD_eq_getElem?_getD, mvd_at hx]
    unfold mv1
    have hf : fid a.1 c.id = (0, true) := by
      rw [hc, ← hd]
      exact fid_at (Up.rise acl.up) (i := 0) (by rw [ed]; rfl)
    rw [hf]; rfl
  have e2 : bts false q (r.getD 0 Cl.empty) = bts false k (r.getD 0 Cl.empty) := by
    unfold bts
    rw [body_23 q k _ hq hk]
  rw [e] at h2 h2'
  rw [e2] at h2 h2'
  refine ⟨_, h1, h2, ?_, ?_⟩
  · rw [h1']; have := key_len k (r.getD 0 Cl.empty) hk; omega
  · rw [h2']; have := key_len k (r.getD 0 Cl.empty) hk; omega
end Go.Proofs.YtigcgkhcbmnboaaGreatDoor.Ev

/- Schemas in a row in memory; a schema's ids, gone over by a range function. -/
namespace Go.Proofs.YtigcgkhcbmnboaaGreatDoor
open Go.RowKit Go.Shelf
set_option linter.unusedVariables false
set_option linter.unusedSimpArgs false
set_option maxRecDepth 100000
attribute [local go_sem] Oper.semAt_some

/-- A schema, as it lies: its two slices. -/
structure Sx where
  a1 : Option Addr
  c1 : Nat
  a2 : Option Addr
  c2 : Nat
  s : Ev.Sm
def Sx.v (x : Sx) : Value := .slice x.a1 x.s.1.length x.c1
def Sx.kv (x : Sx) : Value := .slice x.a2 x.s.2.length x.c2
def sxc (x : Sx) : List Value := [x.v, x.kv]
theorem sxL : Gn.Lay sxc 2 := ⟨fun _ => rfl, fun x v hv => by simp [sxc] at hv; rcases hv with rfl | rfl <;> rfl, by omega⟩
def sxz : Value := .agg #[.slice none 0 0, .slice none 0 0]
theorem sxY : Gn.Ty 38 25 sxz 2 48 := ⟨Tryz.underlying38, by kernel_rfl, by kernel_rfl, rfl, by omega⟩
def sms (L : List Sx) : List Ev.Sm := L.map (·.s)
theorem sms_len (L : List Sx) : (sms L).length = L.length := by simp [sms]
theorem sms_at {L : List Sx} {i : Nat} {x : Sx} (h : L[i]? = some x) : (sms L)[i]? = some x.s := by unfold sms; rw [List.getElem?_map, h]; rfl
/-- A schema that reads. -/
structure RdS (w : World) (B : Nat) (x : Sx) : Prop where
  c : RdK w B x.v x.s.1
  k : RdI w B x.kv x.s.2
theorem RdS.later {w w' : World} {x : Sx} (h : RdS w w.heap.size x) (hb : Below w.heap.size w w') : RdS w' w'.heap.size x := ⟨h.c.later hb, h.k.later hb⟩
/-- Schemas that read. -/
structure RdSm (w : World) (B : Nat) (v : Value) (L : List Sx) : Prop where
  rd : Gn.Rd sxc 2 w B v L
  el : ∀ x ∈ L, RdS w B x
theorem RdSm.later {w w' : World} {v : Value} {L : List Sx} (h : RdSm w w.heap.size v L) (hb : Below w.heap.size w w') : RdSm w' w'.heap.size v L := ⟨Gn.Rd.later h.rd hb, fun x hx => (h.el x hx).later hb⟩
theorem rdS_cells {W w : World} {B n c : Nat} {ad : Option Addr} {L : List Sx} (h : RdSm W B (.slice ad n c) L) (hb : Below B W w) {i : Nat} {x : Sx} (hi : L[i]? = some x) :
    ∃ b off, ad = some ⟨b, off, none⟩ ∧ w.cell? ⟨b, off + i * 2, none⟩ = some x.v ∧ w.cell? ⟨b, off + i * 2 + 1, none⟩ = some x.kv := by
  obtain ⟨hl, e⟩ := List.getElem?_eq_some_iff.1 hi
  obtain ⟨b, off, rfl, _, hc⟩ := Gn.Rd.at h.rd hb hl
  rw [e] at hc
  exact ⟨b, off, rfl, hc 0 _ rfl, hc 1 _ rfl⟩
/-- What a schema's columns and keys may hold. -/
structure SmOk (s : Ev.Sm) : Prop where
  k : ∀ c ∈ s.1, KOk c
  i : ∀ q ∈ s.2, Cl.I64 q
  n : s.1.length ≤ 1000000
  m : s.2.length ≤ 1000000
def SmsOk (L : List Sx) : Prop := ∀ x ∈ L, SmOk x.s

theorem own_tch {α : Type} {enc : α → List Value} {k : Nat} {T : TypeId} {S : Nat → Prop} {w w' : World} {B : Nat} {v : Value} {l : List α} (h : Gn.Own enc k T w B v l) (ht : Touch S w w') (hn : ∀ g, B ≤ g → ¬ S g) : Gn.Own enc k T w' B v l := by
  obtain ⟨h0, h1⟩ := h
  refine ⟨h0, ?_⟩
  rcases h1 with h1 | ⟨g, cap, cur, rfl, hg, hh, r⟩
  · exact .inl h1
  · have hlt : g < w.heap.size := by
      rcases Nat.lt_or_ge g w.heap.size with hlt | hge
      · exact hlt
      · rw [Array.getElem?_eq_none hge] at hh; cases hh
    exact .inr ⟨g, cap, cur, rfl, hg, (ht.block g hlt (hn g hg)).trans hh, r⟩
/-- A column, handed over with its place. -/
abbrev IA (l : List Co) := { x : Nat × Co // l[x.1]? = some x.2 }
def enci {l : List Co} (x : IA l) : Array Value := #[.int .i64 (x.1.1 : Nat), .int .i64 x.1.2.id]
def pl {l : List Co} (xs : List (IA l)) : List Nat := xs.map fun x => x.1.1
def cl {l : List Co} (xs : List (IA l)) : List Co := xs.map fun x => x.1.2
theorem cl_of {l : List Co} {xs : List (IA l)} (h : pl xs = List.range l.length) : cl xs = l := by
  refine List.ext_getElem? fun i => ?_
  have h2 := congrArg (fun z => z[i]?) h
  simp only [pl, List.getElem?_map] at h2
  unfold cl
  rw [List.getElem?_map]
  cases hx : xs[i]? with
  | none =>
    rw [hx] at h2
    simp only [Option.map_none] at h2
    rw [eq_comm, List.getElem?_eq_none_iff, List.length_range] at h2
    rw [List.getElem?_eq_none h2]; rfl
  | some x =>
    rw [hx] at h2
    simp only [Option.map_some] at h2
    have hi : i < l.length := by
      have := (List.getElem?_eq_some_iff.1 h2.symm).1
      simpa using this
    rw [List.getElem?_range hi] at h2
    injection h2 with h2
    have := x.2
    rw [h2] at this
    rw [this]; rfl
theorem ids_new (v kv : Value) (w : World) :
    Calls Tryz.prog 71 #[.agg #[v, kv]] w fun e w' => e = .returned (.func (.func 85) #[] #[.pointer (some ⟨w.heap.size, 0, none⟩)]) ∧ w' = w.alloc (.cells #[v, kv] 25) := by
  go_enter Tryz.func71, Tryz.ntmps71
  go_wp2_with fail
  go_ret
  exact ⟨rfl, rfl⟩
set_option maxHeartbeats 4000000 in
theorem ids_stops (n Bs B : Nat) (hn : 1 ≤ n) (a : Option Addr) (c : Nat) (l : List Co) (hl : l.length ≤ 1000000) (w : World) (hB : B ≤ w.heap.size) (hBs : Bs < w.heap.size) (h0 : w.cell? ⟨Bs, 0, none⟩ = some (.slice a l.length c)) (hr : RdK w B (.slice a l.length c) l) :
    SeqStopsK Fence.wide n Tryz.prog 85 #[.pointer (some ⟨Bs, 0, none⟩)] (enci (l := l)) (Below B) (fun xs => pl xs = List.range l.length) (fun _ => True) l.length w := fun ll J Jx W hW hJ _ hY h0J => by
  have hc' := (hW.cell (p := ⟨Bs, 0, none⟩) hBs).trans h0
  have H0 := Lib.hid h0J
  have HW : Hid (Below B w W) := Lib.hid (hW.mono hB)
  have HY := Lib.hid hY
  have HJ := Lib.hid hJ
  have HR := Lib.hid hr
  clear h0J hY hW h0 hJ hr
  refine callsIn_of_wp Tryz.func85 rfl trivial ?_ rfl
  simp only [Tryz.ntmps85, List.size_toArray, List.length_cons, List.length_nil, Nat.reduceAdd, Nat.reduceSub, Array.replicate_succ, Array.replicate_zero, List.push_toArray, List.append_toArray, List.nil_append, List.cons_append]
  gi_wp2_with fail
  gi_loopw [8] (fun i wr => ∃ pre : List (IA l), i = .int .i64 (pre.length : Nat) ∧ pre.length ≤ l.length ∧ Hid (pl pre = List.range pre.length) ∧ Hid (J pre wr) ∧ Hid (Below B w wr) ∧ Hid (W.heap.size ≤ wr.heap.size)) (fun i _ => l.length - (intOf i).toNat)
  case atStart => exact ⟨[], by rfl, Nat.zero_le _, Lib.hid rfl, H0, HW, Lib.hid (Nat.le_refl _)⟩
  case round =>
    obtain ⟨pre, rfl, hk, HE, HP, HB, HS⟩ := hrel
    clear H0 HW hc'
    by_cases hlt : pre.length < l.length
    · have hlt1 : (pre.length : Int) < l.length := by omega
      obtain ⟨x, hx⟩ : ∃ x, l[pre.length]? = some x := ⟨_, List.getElem?_eq_getElem hlt⟩
      obtain ⟨b1, o1, rfl, p0, p1, p2, p3, p4, p5, p6⟩ := rdK_cells HR.out HB.out hx
      obtain ⟨px, hpx⟩ : ∃ px : IA l, px = ⟨(pre.length, x), hx⟩ := ⟨_, rfl⟩
      have HE2 : Hid (pl (pre ++ [px]) = List.range (pre ++ [px]).length) := Lib.hid (by
        unfold pl
        rw [List.map_append, List.length_append, List.length_singleton, List.range_succ, hpx]
        exact congrArg (· ++ _) HE.out)
      have hlen : (pre ++ [px]).length = pre.length + 1 := by simp
      have HJ2 := Lib.hid (HJ.out pre wr (wr.alloc (.cells #[.int .i64 x.id, .string x.nm, .int .i64 x.k, .bool x.u, .bool x.d.u, .int .i64 x.d.n, .string x.d.s] 63)) none HP.out (World.grownBy_alloc _ _ none) (fun _ h => by cases h))
      have HB2 := Lib.hid (HB.out.trans ((box_new wr (.cells #[.int .i64 x.id, .string x.nm, .int .i64 x.k, .bool x.u, .bool x.d.u, .int .i64 x.d.n, .string x.d.s] 63)).mono (Nat.le_trans hB HB.out.size)))
      have HS2 : Hid (W.heap.size ≤ (wr.alloc (.cells #[.int .i64 x.id, .string x.nm, .int .i64 x.k, .bool x.u, .bool x.d.u, .int .i64 x.d.n, .string x.d.s] 63)).heap.size) := Lib.hid (by have := HS.out; simp; omega)
      obtain ⟨fn, tmps, assign, body, hy, hRo⟩ := HY.out pre px _ HJ2.out hlt
      rw [hpx] at hy
      simp only [enci] at hy
      clear hpx hx HJ2 HE HP
      obtain ⟨xi, xm, xk, xu, ⟨xa, xb, xc⟩⟩ := x
      simp only at p0 p1 p2 p3 p4 p5 p6 HB2 HS2 hy hRo
      gi_wp2
      refine hRo.mono ?_
      rintro e W3 (⟨rfl, hJ3, hk3⟩ | ⟨rfl, hJx3⟩)
      · gi_wp2
        go_roundw
        case rel => exact ⟨pre ++ [px], by rw [hlen]; go_num, by omega, HE2, Lib.hid hJ3, Lib.hid (HB2.out.trans hk3), Lib.hid (Nat.le_trans HS2.out hk3.size)⟩
        case measure => simp [intOf]; omega
      · gi_wp2
        refine bodyPost_ret (results_none rfl _ _ _) rfl ?_
        exact ⟨⟨_, rfl⟩, .inr ⟨_, trivial, hJx3⟩⟩
    · have hlt1 : ¬ (pre.length : Int) < l.length := by omega
      have he : pre.length = l.length := by omega
      have HD : Hid (pl pre = List.range l.length) := Lib.hid (by rw [← he]; exact HE.out)
      clear he
      gi_wp2
      go_end0
      exact ⟨⟨_, rfl⟩, .inl ⟨pre, HD.out, HP.out⟩⟩
end Go.Proofs.YtigcgkhcbmnboaaGreatDoor

/- The ids of the key's columns. -/
namespace Go.Proofs.YtigcgkhcbmnboaaGreatDoor
open Go.RowKit Go.Shelf
set_option linter.unusedVariables false
set_option linter.unusedSimpArgs false
set_option maxRecDepth 100000
attribute [local go_sem] Oper.semAt_some

def kf (ks : List Int) {l : List Co} (xs : List (IA l)) : List Int := xs.flatMap fun x => if ks.contains ((x.1.1 : Nat) : Int) then [x.1.2.id] else []
theorem kf_snoc (ks : List Int) {l : List Co} (xs : List (IA l)) (x : IA l) : kf ks (xs ++ [x]) = kf ks xs ++ (if ks.contains ((x.1.1 : Nat) : Int) then [x.1.2.id] else []) := by unfold kf; simp
theorem kf_from (ks : List Int) {l : List Co} : ∀ (xs : List (IA l)) (i : Nat) (t : List Co), xs.map (fun x => x.1.1) = List.range' i t.length → xs.map (fun x => x.1.2) = t → kf ks xs = Ev.kidF ks i t
  | [], i, t, _, h => by simp at h; subst h; rfl
  | x :: xs, i, t, h1, h2 => by
    match t with
    | [] => simp at h2
    | c :: t =>
      simp only [List.map_cons, List.cons.injEq] at h2
      rw [List.length_cons, List.range'_succ, List.map_cons, List.cons.injEq] at h1
      have ih := kf_from ks xs (i + 1) t h1.2 h2.2
      have e : kf ks (x :: xs) = (if ks.contains ((x.1.1 : Nat) : Int) then [x.1.2.id] else []) ++ kf ks xs := by unfold kf; simp
      rw [e, ih, h1.1, h2.1, Ev.kidF_cons]
      by_cases hm : ((i : Nat) : Int) ∈ ks
      · rw [if_pos hm, if_pos (by simpa using hm)]; rfl
      · rw [if_neg hm, if_neg (by simpa using hm)]; rfl
theorem kf_all (ks : List Int) {l : List Co} {xs : List (IA l)} (h : pl xs = List.range l.length) : kf ks xs = Ev.kid (l, ks) := kf_from ks xs 0 l (by rw [← List.range_eq_range']; exact h) (cl_of h)
/-- Between two rounds. -/
structure KW (w : World) (v kv : Value) (K : List Int) (kx : Value) (W : World) : Prop where
  s : Blk W w.heap.size 25 [v, kv]
  r : Blk W (w.heap.size + 1) 23 [kx]
  o : OwnI W (w.heap.size + 2) kx K
  b : Below w.heap.size w W
  z : w.heap.size + 3 ≤ W.heap.size
theorem KW.later {w W W' : World} {v kv kx : Value} {K : List Int} (h : KW w v kv K kx W) (hb : Below W.heap.size W W') : KW w v kv K kx W' :=
  ⟨h.s.later hb, h.r.later hb, Gn.Own.later h.o hb, up h.b hb, Nat.le_trans h.z hb.size⟩
theorem KW.still {w W W' : World} {v kv kx : Value} {K : List Int} {row : Option Nat} {B : Nat} (h : KW w v kv K kx W) (hg : W.grownBy W' row) (hr : ∀ r, row = some r → B ≤ r ∧ ∃ o : Obj, W.heap[r]? = some o ∧ o.isCells = false) (hB : w.heap.size ≤ B) : KW w v kv K kx W' := by
  have hn : NoCells W row := fun r e => (hr r e).2
  exact ⟨h.s.still hg hn, h.r.still hg hn, own_still h.o hg hn, h.b.grown hg h.b.size (fun g e => Nat.le_trans hB (hr g e).1), Nat.le_trans h.z hg.size⟩
theorem KW.app {w W W' : World} {v kv kx v1 : Value} {K K' : List Int} (h : KW w v kv K kx W) (ho : OwnI W' (w.heap.size + 2) v1 K') (hg : W.grownBy W' kx.ownBlock) :
    Blk W' (w.heap.size + 1) 23 [kx] ∧ KW w v kv K' v1 (W'.setCell ⟨w.heap.size + 1, 0, none⟩ v1) := by
  have h3 : Blk W' (w.heap.size + 1) 23 [kx] := h.r.app hg h.o (by omega)
  refine ⟨h3, (h.s.app hg h.o (by omega)).far (by simp only; omega) v1, Blk.put h3 0 v1, own_far ho (by simp only; omega) v1, ?_, ?_⟩
  · exact (h.b.grown hg (by have := h.z; omega) (fun g e => by have := (h.o.lt g e).1; omega)).setCell (by simp only; omega) v1
  · have := hg.size; have := h.z; simp; omega
set_option maxHeartbeats 8000000 in
theorem cKeyIds (x : Sx) (hN : SmOk x.s) (w : World) (h : RdS w w.heap.size x) :
    Calls Tryz.prog 89 #[.agg #[x.v, x.kv]] w fun e w' => ∃ u, e = .returned u ∧ OwnI w' w.heap.size u (Ev.kid x.s) ∧ Below w.heap.size w w' := by
  obtain ⟨a1, c1, a2, c2, ⟨l, ks⟩⟩ := x
  unfold Sx.v Sx.kv
  obtain ⟨hk, hkk⟩ := h
  unfold Sx.v at hk
  unfold Sx.kv at hkk
  have hln := hN.n
  simp only at hk hkk hln ⊢
  obtain ⟨wa, hwa⟩ : ∃ wa, wa = (w.alloc (.cells #[.slice a1 l.length c1, .slice a2 ks.length c2] 25)).alloc (.cells #[.slice none 0 0] 23) := ⟨_, rfl⟩
  obtain ⟨wb, hwb⟩ : ∃ wb, wb = wa.alloc (.cells #[.slice a1 l.length c1, .slice a2 ks.length c2] 25) := ⟨_, rfl⟩
  have hsa : wa.heap.size = w.heap.size + 2 := by rw [hwa]; simp
  have hsb : wb.heap.size = w.heap.size + 3 := by rw [hwb]; simp [hsa]
  have B1 : Below w.heap.size w wa := by rw [hwa]; exact up_box (box_new _ _) _
  have B2 : Below w.heap.size w wb := by rw [hwb]; exact up_box B1 _
  have hab : Below wa.heap.size wa wb := by rw [hwb]; exact box_new _ _
  have R0 : Blk wb w.heap.size 25 [.slice a1 l.length c1, .slice a2 ks.length c2] := by
    refine Blk.later ?_ hab
    rw [hwa]
    exact Blk.later (Blk.new w 25 #[.slice a1 l.length c1, .slice a2 ks.length c2]) (box_new _ _)
  have R1 : Blk wb (w.heap.size + 1) 23 [.slice none 0 0] := by
    refine Blk.later ?_ hab
    have := Blk.new (w.alloc (.cells #[.slice a1 l.length c1, .slice a2 ks.length c2] 25)) 23 #[.slice none 0 0]
    rw [show (w.alloc (.cells #[.slice a1 l.length c1, .slice a2 ks.length c2] 25)).heap.size = w.heap.size + 1 by simp] at this
    rw [hwa]
    exact this
  have hg2 : wb.cell? ⟨w.heap.size + 2, 0, none⟩ = some (.slice a1 l.length c1) := by
    have := (Blk.new wa 25 #[.slice a1 l.length c1, .slice a2 ks.length c2]).cell 0
    rw [hsa] at this
    rw [hwb]
    exact this
  have HST := Lib.hid (ids_stops 7 (w.heap.size + 2) w.heap.size (by omega) a1 c1 l hln wb (by omega) (by omega) hg2 (Gn.Rd.below hk B2 (Nat.le_refl _)))
  have CP := Lib.hid (ids_new (.slice a1 l.length c1) (.slice a2 ks.length c2) wa)
  rw [hsa] at CP
  have HKW : Hid (KW w (.slice a1 l.length c1) (.slice a2 ks.length c2) [] (.slice none 0 0) wb) := Lib.hid ⟨R0, R1, Gn.Own.nil _ _, B2, by omega⟩
  have HKK := Lib.hid hkk
  have HSB := Lib.hid hsb
  have HLN := Lib.hid hln
  clear hk hkk B1 B2 hab R0 R1 hg2 hsa hsb hln hN
  refine (callsIn_wide (n := 8)).1 ?_
  refine callsIn_of_wp_marks Tryz.func89 rfl trivial ?_ rfl
  simp only [Tryz.ntmps89, List.size_toArray, List.length_cons, List.length_nil, Nat.reduceAdd, Nat.reduceSub, Array.replicate_succ, Array.replicate_zero, List.push_toArray, List.append_toArray, List.nil_append, List.cons_append]
  gi_wp2_with fail
  rw [← hwa]
  refine ⟨trivial, (callsIn_wide.2 CP.out).mono ?_⟩
  rintro e w2 ⟨rfl, hw2⟩
  rw [← hwb] at hw2
  subst hw2
  clear CP hwb hwa
  gi_wp2_with fail
  refine wpIn_rangeFunc_ownG rfl (by omega) (gf := 85) (lb := #[.pointer (some ⟨w.heap.size + 2, 0, none⟩)]) rfl trivial (enters_of Tryz.func85 (by kernel_rfl) rfl)
    HST.out belowK_t (belowK_b (by have := HSB.out; omega)) (Below.refl _ _) (fun _ => rfl)
    (fun pre W => ∃ kx, KW w (.slice a1 l.length c1) (.slice a2 ks.length c2) (kf ks pre) kx W ∧ (kf ks pre).length ≤ pre.length)
    (fun c pre W => False) ?own ?ownx ?start ?a1 ?assign ?body ?done ?stop
  case assign =>
    intro l x W K hK
    dsimp only [enci]
    gi_wp2
    exact hK
  case own =>
    rintro pre W W' row ⟨kx, h, h2⟩ hg hr
    exact ⟨kx, h.still hg hr (by have := HSB.out; omega), h2⟩
  case ownx => exact fun c pre W W' row h => h.elim
  case start => exact ⟨_, HKW.out, Nat.le_refl _⟩
  case body =>
    rintro ll pre x W ⟨kx, hkw, hkl⟩ hlen
    have HP := Lib.hid hkw
    have CC := Lib.hid (cContains (.slice a2 ks.length c2) ks W (Gn.Rd.later HKK.out (by exact hkw.b)) (x.1.1 : Nat))
    have d0 := hkw.s.cell 0
    have d1 := hkw.s.cell 1
    have q0 := hkw.r.cell 0
    have q1 := hkw.r.frozen 0
    simp only [List.getElem?_cons_succ, List.getElem?_cons_zero] at d0 d1 q0
    have HN : Hid ((kf ks pre).length + ([x.1.2.id] : List Int).length ≤ 100000000) := Lib.hid (by have := HLN.out; simp only [List.length_cons, List.length_nil]; omega)
    have HL : Hid ((kf ks pre).length ≤ pre.length) := Lib.hid hkl
    have HSN := Lib.hid (kf_snoc ks pre x)
    clear hkw hlen hkl
    gi_wp2_with fail
    refine ⟨trivial, (CallsIn.inRound ll (callsIn_wide.2 CC.out)).mono ?_⟩
    rintro e W1 ⟨rfl, rfl⟩
    clear CC
    cases hc : ks.contains ((x.1.1 : Nat) : Int) with
    | false =>
      rw [hc, if_neg (by decide), List.append_nil] at HSN
      gi_wp2_with fail
      exact ⟨KeepsFrom.refl _ _, Below.refl _ _, kx, by rw [HSN.out]; exact HP.out, by rw [HSN.out, List.length_append]; have := HL.out; omega⟩
    | true =>
      rw [hc, if_pos rfl] at HSN
      have bb := box_new W (.cells #[.int .i64 x.1.2.id] 3)
      have HPb := Lib.hid (HP.out.later bb)
      have HRI := Lib.hid (rd_one 3 inL W x.1.2.id #[.int .i64 x.1.2.id] rfl)
      have HG := Lib.hid ((Go2.refl w.heap.size w2.heap.size W).below (by have := HP.out.z; omega) bb)
      have HS2 := Lib.hid (show w.heap.size + 2 ≤ (W.alloc (.cells #[.int .i64 x.1.2.id] 3)).heap.size by have := HPb.out.z; omega)
      clear bb
      gi_wp2_with (gi_at_builtin; refine wpListIn_app inL inY rfl (.tmp 14) (.tmp 16) rfl (w.heap.size + 2) kx (kf ks pre) rfl HPb.out.o _ [x.1.2.id] rfl HRI.out HN.out HS2.out ?_; intro v1 w1 ho1 hg1; obtain ⟨nv, va, vc, rfl⟩ := own_form ho1; have HA := Lib.hid (HPb.out.app ho1 hg1); have HGA := Lib.hid (HG.out.app HPb.out.o hg1 (by omega) (by have := HPb.out.z; omega)); clear q0 q1; have q0 := HA.out.1.cell 0; have q1 := HA.out.1.frozen 0; simp only [List.getElem?_cons_succ, List.getElem?_cons_zero] at q0; clear ho1 hg1)
      exact ⟨(HGA.out.set (by simp only; omega) _).kf, (HGA.out.set (by simp only; omega) _).blw, _, by rw [HSN.out]; exact HA.out.2, by rw [HSN.out, List.length_append, List.length_append]; have := HL.out; simp only [List.length_cons, List.length_nil]; omega⟩
  case done =>
    rintro D xs W hD hx ⟨kx, hkw, _⟩ hKD
    have hD3 : w.heap.size + 3 ≤ D := by have := HSB.out; omega
    have HAA : Hid (kf ks xs = Ev.kid (l, ks)) := Lib.hid (kf_all ks hx)
    have HM := Lib.hid hkw
    have q0 := hkw.r.cell 0
    simp only [List.getElem?_cons_succ, List.getElem?_cons_zero] at q0
    clear hx hkw
    gi_wp2_with fail
    have hg := grownBy_putObj' W D (.deferred none)
    have hn : NoCells W (some D) := fun r e => by injection e with e; subst e; exact ⟨_, hKD, rfl⟩
    refine ⟨by simp, .inl ⟨_, _, rfl, run_takeDeferred hKD, ?_⟩⟩
    refine ⟨_, results_tmp rfl _ _ _, kx, rfl, ?_, ?_⟩
    · rw [← HAA.out]; exact Gn.Own.lower (own_still HM.out.o hg hn) (by omega)
    · exact HM.out.b.grown hg HM.out.b.size (fun g e => by injection e with e; omega)
  case stop => exact fun D c pre W _ _ h => h.elim
end Go.Proofs.YtigcgkhcbmnboaaGreatDoor
