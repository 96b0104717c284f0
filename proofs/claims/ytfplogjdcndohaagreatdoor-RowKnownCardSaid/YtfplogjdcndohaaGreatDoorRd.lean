/- Several texts in one: Grow, Merge, RwKnownW. -/
import Derived.StillTailTactics
import Derived.Deep.RegionHeld3
import Derived.Test.YtfplogjdcndohaaGreatDoorSep
import Derived.Test.YtfplogjdcndohaaGreatDoorRc
/- A region whose orders are merged: what its slots and the world are behind it is said once, and the walk goes on once. Own text. -/
namespace Go.Proofs.YtfplogjdcndohaaGreatDoor
open Go

/-- The slots of ws, emptied; filled out of another row. -/
def blank : List Nat → Array Value → Array Value
  | [], t => t
  | j :: ws, t => blank ws (t.setIfInBounds j undef)
def fill (ts : Array Value) : List Nat → Array Value → Array Value
  | [], t => t
  | j :: ws, t => fill ts ws (t.setIfInBounds j (ts.getD j undef))
theorem blank_get : ∀ (ws : List Nat) (t : Array Value) (i : Nat), (blank ws t)[i]? = if i ∈ ws ∧ i < t.size then some undef else t[i]?
  | [], t, i => by simp [blank]
  | j :: ws, t, i => by
    unfold blank
    rw [blank_get ws]
    simp only [Array.size_setIfInBounds, Array.getElem?_setIfInBounds, List.mem_cons]
    by_cases h1 : i ∈ ws <;> by_cases h2 : i < t.size <;> by_cases h3 : j = i <;> simp_all
    all_goals (try omega)
    all_goals (first | (intro h; omega) | skip)
theorem fill_get (ts : Array Value) : ∀ (ws : List Nat) (t : Array Value) (i : Nat), ts.size = t.size → (fill ts ws t)[i]? = if i ∈ ws then ts[i]? else t[i]?
  | [], t, i, _ => by simp [fill]
  | j :: ws, t, i, hs => by
    unfold fill
    rw [fill_get ts ws _ i (by simpa using hs)]
    simp only [Array.getElem?_setIfInBounds, List.mem_cons]
    by_cases h1 : i ∈ ws
    · simp [h1]
    · by_cases h3 : j = i
      · subst h3
        by_cases h2 : j < t.size
        · simp [h1, h2, Array.getD_eq_getD_getElem?, Array.getElem?_eq_getElem (show j < ts.size by omega)]
        · simp [h1, h2]; omega
      · simp [h1, h3, Ne.symm h3]
theorem fill_of {ws : List Nat} {ts t : Array Value} (h : blank ws ts = blank ws t) (hs : ts.size = t.size) : fill ts ws t = ts := by
  apply Array.ext_getElem?
  intro i
  rw [fill_get ts ws t i hs]
  by_cases hi : i ∈ ws
  · rw [if_pos hi]
  · rw [if_neg hi]
    have h1 := blank_get ws ts i
    have h2 := blank_get ws t i
    rw [h] at h1
    rw [if_neg (by simp [hi])] at h1 h2
    exact h2.symm.trans h1
theorem region_merge {P : Program} {c : Code} (ws : List Nat) (R : Array Value → World → Prop) {Q : Exit → Act → World → Prop} {a : Act} {w : World}
    (h : c.wp P (fun e a' w' => e = .normal ∧ a'.defers = a.defers ∧ a'.tmps.size = a.tmps.size ∧ blank ws a'.tmps = blank ws a.tmps ∧ R a'.tmps w') a w)
    (k : ∀ (ts : Array Value) (w' : World), R ts w' → Q .normal ⟨fill ts ws a.tmps, a.defers⟩ w') : c.wp P Q a w := by
  refine Code.wp_mono (fun e a' w' hh => ?_) h
  obtain ⟨rfl, hd, hs, hb, hr⟩ := hh
  have := k a'.tmps w' hr
  rw [fill_of hb hs, ← hd] at this
  exact this
end Go.Proofs.YtfplogjdcndohaaGreatDoor

/- A drawn region that only makes memory anew: what each operation's result is, is said by itself, of any world that has grown; one obligation an operation, none an order. Own text. -/
namespace Go.Proofs.YtfplogjdcndohaaGreatDoor
open Go Go.RowKit

def dstOf (ops : Array Oper) (j : Nat) : Option Nat := (ops[j]?).bind (·.dst)
def valOf (ops : Array Oper) (a : Act) (j : Nat) : Value := match dstOf ops j with | some s => a.tmps.getD s undef | none => undef
/-- Each operation has a slot of its own, and waits for earlier ones alone. -/
def growB (ops : Array Oper) (n : Nat) : Bool :=
  (List.range ops.size).all fun j => (match ops[j]? with
    | some o => o.after.all (fun e => !Region.binds .any e || decide (e.on < j)) && (match o.dst with
      | some s => decide (s < n) && (List.range ops.size).all fun i => i == j || !(dstOf ops i == some s)
      | none => true)
    | none => true)
theorem growB_spec {ops : Array Oper} {n : Nat} (h : growB ops n = true) {j : Nat} {o : Oper} (hj : ops[j]? = some o) : (∀ e ∈ o.after, Region.binds .any e = true → e.on < j) ∧ ∀ s, o.dst = some s → s < n ∧ ∀ i, i < ops.size → i ≠ j → dstOf ops i ≠ some s := by
  have hlt : j < ops.size := (Array.getElem?_eq_some_iff.1 hj).1
  have h1 := List.all_eq_true.1 h j (List.mem_range.2 hlt)
  simp only [hj, Bool.and_eq_true] at h1
  refine ⟨fun e he hb => ?_, fun s hs => ?_⟩
  · have h2 := Array.all_eq_true_iff_forall_mem.1 h1.1 e he
    simp only [hb, Bool.not_true, Bool.false_or, decide_eq_true_eq] at h2
    exact h2
  · have h3 := h1.2
    rw [hs] at h3
    simp only [Bool.and_eq_true, decide_eq_true_eq] at h3
    refine ⟨h3.1, fun i hi hne => ?_⟩
    have h4 := List.all_eq_true.1 h3.2 i (List.mem_range.2 hi)
    simp only [Bool.or_eq_true, beq_iff_eq, Bool.not_eq_true', beq_eq_false_iff_ne] at h4
    exact h4.resolve_left hne
structure GInv (ops : Array Oper) (J : Nat → Value → World → Prop) (a0 : Act) (w0 : World) (listed : Array Bool) (a : Act) (w : World) : Prop where
  b : Below w0.heap.size w0 w
  size : a.tmps.size = a0.tmps.size
  defers : a.defers = a0.defers
  old : ∀ s, (∀ j, j < ops.size → dstOf ops j ≠ some s) → a.tmps[s]? = a0.tmps[s]?
  ls : listed.size = ops.size
  got : ∀ j, j < ops.size → listed.getD j false = true → J j (valOf ops a j) w
theorem GInv.step {ops : Array Oper} {J : Nat → Value → World → Prop} {a0 : Act} {w0 : World} (hB : growB ops a0.tmps.size = true) (hJ : ∀ j v w w', J j v w → Below w.heap.size w w' → J j v w')
    {listed : Array Bool} {a : Act} {w w' : World} {i : Nat} {o : Oper} {v : Value} (h : GInv ops J a0 w0 listed a w) (ho : ops[i]? = some o) (hv : J i (match o.dst with | some _ => v | none => undef) w') (hb : Below w.heap.size w w') :
    GInv ops J a0 w0 (listed.setIfInBounds i true) (a.put o.dst v) w' := by
  have hi : i < ops.size := (Array.getElem?_eq_some_iff.1 ho).1
  obtain ⟨_, hd⟩ := growB_spec hB ho
  have hdi : dstOf ops i = o.dst := by unfold dstOf; rw [ho]; rfl
  refine ⟨h.b.trans (hb.mono h.b.size), ?_, ?_, fun s hs => ?_, by simp [h.ls], fun j hj hl => ?_⟩
  · unfold Act.put; split <;> simp [h.size]
  · unfold Act.put; split <;> exact h.defers
  · have hne := hs i hi
    rw [hdi] at hne
    unfold Act.put
    split
    · rename_i d hdd
      rw [hdd] at hne
      rw [Array.getElem?_setIfInBounds_ne (by intro e; exact hne (by rw [e]))]
      exact h.old s hs
    · exact h.old s hs
  · by_cases hij : j = i
    · subst hij
      unfold valOf
      rw [hdi]
      unfold Act.put
      cases hdd : o.dst with
      | none => rw [hdd] at hv; exact hv
      | some d =>
        rw [hdd] at hv
        have := (hd d hdd).1
        simp only
        rw [Array.getD_eq_getD_getElem?, Array.getElem?_setIfInBounds_self, if_pos (by rw [h.size]; exact this)]
        exact hv
    · have hl2 : listed.getD j false = true := by
        rw [Array.getD_eq_getD_getElem?, Array.getElem?_setIfInBounds_ne (Ne.symm hij)] at hl
        rw [Array.getD_eq_getD_getElem?]; exact hl
      have hg := hJ _ _ _ _ (h.got j hj hl2) hb
      have e : valOf ops (a.put o.dst v) j = valOf ops a j := by
        unfold valOf
        cases hdj : dstOf ops j with
        | none => rfl
        | some s =>
          unfold Act.put
          cases hdd : o.dst with
          | none => rfl
          | some d =>
            have hne : d ≠ s := fun e => (hd d hdd).2 j hj hij (by rw [hdj, e])
            simp only
            rw [Array.getD_eq_getD_getElem?, Array.getElem?_setIfInBounds_ne hne, ← Array.getD_eq_getD_getElem?]
      rw [e]; exact hg
/-- **A region that only grows.** -/
theorem wpAny_grow {P : Program} {ops : Array Oper} {Q : Exit → Act → World → Prop} {J : Nat → Value → World → Prop} {a0 : Act} {w0 : World} (hB : growB ops a0.tmps.size = true) (hJ : ∀ j v w w', J j v w → Below w.heap.size w w' → J j v w')
    (hstep : ∀ (j : Nat) (o : Oper) (a : Act) (w : World), ops[j]? = some o → Below w0.heap.size w0 w → a.tmps.size = a0.tmps.size → (∀ s, (∀ j, j < ops.size → dstOf ops j ≠ some s) → a.tmps[s]? = a0.tmps[s]?) →
      (∀ e ∈ o.after, Region.binds .any e = true → J e.on (valOf ops a e.on) w) → wpOp P ops Q j (fun a' w' => ∃ v, a' = a.put o.dst v ∧ J j (match o.dst with | some _ => v | none => undef) w' ∧ Below w.heap.size w w') a w)
    (hend : ∀ a w, Below w0.heap.size w0 w → a.defers = a0.defers → a.tmps.size = a0.tmps.size → (∀ s, (∀ j, j < ops.size → dstOf ops j ≠ some s) → a.tmps[s]? = a0.tmps[s]?) → (∀ j, j < ops.size → J j (valOf ops a j) w) → Q .normal a w) :
    ∀ (fuel : Nat) (listed : Array Bool) (a : Act) (w : World), GInv ops J a0 w0 listed a w → listed.toList.count false = fuel → wpAny P .any ops Q fuel listed a w
  | fuel, listed, a, w, inv, hc => by
    have fin : Region.ready .any ops listed = [] → Q .normal a w := fun h0 => by
      have hall : ∀ j, j < ops.size → listed.getD j false = true := by
        intro j
        induction j using Nat.strongRecOn with
        | _ j ih =>
          intro hj
          cases hl : listed.getD j false with
          | true => rfl
          | false =>
            exfalso
            obtain ⟨o, ho⟩ : ∃ o, ops[j]? = some o := ⟨_, Array.getElem?_eq_getElem hj⟩
            have : j ∈ Region.ready .any ops listed := mem_ready.2 ⟨by
              rw [Array.getD_eq_getD_getElem?] at hl ⊢
              rw [Array.getElem?_eq_getElem (by rw [inv.ls]; exact hj)] at hl ⊢
              exact hl, o, ho, fun e he hb => ih e.on ((growB_spec hB ho).1 e he hb) (by have := (growB_spec hB ho).1 e he hb; omega)⟩
            rw [h0] at this; cases this
      exact hend a w inv.b inv.defers inv.size inv.old fun j hj => inv.got j hj (hall j hj)
    cases fuel with
    | zero =>
      refine ⟨?_, ?_⟩
      · cases hr : Region.ready .any ops listed with
        | nil => rfl
        | cons i t =>
          exfalso
          have hi : i ∈ Region.ready .any ops listed := by rw [hr]; exact List.mem_cons_self ..
          obtain ⟨hun, o, ho, _⟩ := mem_ready.1 hi
          have hlt : i < listed.size := by rw [inv.ls]; exact (Array.getElem?_eq_some_iff.1 ho).1
          have := List.count_eq_zero.1 hc
          rw [Array.getD_eq_getD_getElem?, Array.getElem?_eq_getElem hlt] at hun
          exact this (by rw [← show listed[i] = false from hun]; exact Array.getElem_mem_toList hlt)
      · refine fin ?_
        cases hr : Region.ready .any ops listed with
        | nil => rfl
        | cons i t =>
          exfalso
          have hi : i ∈ Region.ready .any ops listed := by rw [hr]; exact List.mem_cons_self ..
          obtain ⟨hun, o, ho, _⟩ := mem_ready.1 hi
          have hlt : i < listed.size := by rw [inv.ls]; exact (Array.getElem?_eq_some_iff.1 ho).1
          have := List.count_eq_zero.1 hc
          rw [Array.getD_eq_getD_getElem?, Array.getElem?_eq_getElem hlt] at hun
          exact this (by rw [← show listed[i] = false from hun]; exact Array.getElem_mem_toList hlt)
    | succ f =>
      refine ⟨fin, fun i hi => ?_⟩
      obtain ⟨hun, o, ho, hdep⟩ := mem_ready.1 hi
      have hlt : i < listed.size := by rw [inv.ls]; exact (Array.getElem?_eq_some_iff.1 ho).1
      refine wpOp_mono (fun a' w' hh => ?_) (hstep i o a w ho inv.b inv.size inv.old fun e he hb => inv.got e.on (by have := (growB_spec hB ho).1 e he hb; have := (Array.getElem?_eq_some_iff.1 ho).1; omega) (hdep e he hb))
      obtain ⟨v, rfl, hv, hb⟩ := hh
      have hcount : (listed.setIfInBounds i true).toList.count false = f := by
        obtain ⟨l⟩ := listed
        simp only [List.size_toArray] at hlt
        simp [hlt] at hun
        simp only [List.setIfInBounds_toArray]
        have hm : l.count false ≠ 0 := by
          intro h0
          exact List.count_eq_zero.1 h0 (hun ▸ List.getElem_mem hlt)
        simp only at hc
        rw [List.count_set hlt, hun]
        simp
        omega
      exact wpAny_grow hB hJ hstep hend f _ _ _ (inv.step hB hJ ho hv hb) hcount
theorem region_grow {P : Program} {id : Nat} {ops : Array Oper} {Q : Exit → Act → World → Prop} (J : Nat → Value → World → Prop) {a0 : Act} {w : World} (hm : P.follows .mixedOrders = true) (hB : growB ops a0.tmps.size = true) (hJ : ∀ j v w w', J j v w → Below w.heap.size w w' → J j v w')
    (hstep : ∀ (j : Nat) (o : Oper) (a : Act) (w1 : World), ops[j]? = some o → Below w.drew.heap.size w.drew w1 → a.tmps.size = a0.tmps.size → (∀ s, (∀ j, j < ops.size → dstOf ops j ≠ some s) → a.tmps[s]? = a0.tmps[s]?) →
      (∀ e ∈ o.after, Region.binds .any e = true → J e.on (valOf ops a e.on) w1) → wpOp P ops Q j (fun a' w' => ∃ v, a' = a.put o.dst v ∧ J j (match o.dst with | some _ => v | none => undef) w' ∧ Below w1.heap.size w1 w') a w1)
    (hend : ∀ a w1, Below w.drew.heap.size w.drew w1 → a.defers = a0.defers → a.tmps.size = a0.tmps.size → (∀ s, (∀ j, j < ops.size → dstOf ops j ≠ some s) → a.tmps[s]? = a0.tmps[s]?) → (∀ j, j < ops.size → J j (valOf ops a j) w1) → Q .normal a w1) : (Code.region id ops true).wp P Q a0 w := by
  refine wp_region_any hm ?_
  exact wpAny_grow (w0 := w.drew) hB hJ hstep hend _ _ _ _ ⟨Below.refl _ _, rfl, rfl, fun s _ => rfl, by simp, fun j hj hl => by rw [Array.getD_eq_getD_getElem?] at hl; simp [hj] at hl⟩ (by simp)
/-- An operation that gives a value. -/
theorem grow_val {P : Program} {ops : Array Oper} {Q : Exit → Act → World → Prop} {J : Nat → Value → World → Prop} {a : Act} {w : World} {j : Nat} {o : Oper} (v : Value) (w' : World) (ho : ops[j]? = some o) (hw : Region.wanted o (yielded ops a.tmps) = true)
    (hr : (execOp a.eval o).run P w = .ok (.value v) w') (hb : Below w.heap.size w w') (hJ : J j (match o.dst with | some _ => v | none => undef) w') : wpOp P ops Q j (fun a' w' => ∃ v, a' = a.put o.dst v ∧ J j (match o.dst with | some _ => v | none => undef) w' ∧ Below w.heap.size w w') a w := by
  unfold wpOp
  rw [ho]
  simp only [hw, if_true]
  left
  unfold Oper.wp
  rw [hr]
  exact ⟨v, rfl, hJ, hb⟩
/-- An operation that calls. -/
theorem grow_call {P : Program} {ops : Array Oper} {Q : Exit → Act → World → Prop} {J : Nat → Value → World → Prop} {a : Act} {w : World} {j : Nat} {o : Oper} (f : FuncId) (args : Array Value) (ho : ops[j]? = some o) (hw : Region.wanted o (yielded ops a.tmps) = true)
    (hr : (execOp a.eval o).run P w = .ok (.enter f args) w) (hc : Calls P f args w fun e w' => ∃ v, e = .returned v ∧ J j (match o.dst with | some _ => v | none => undef) w' ∧ Below w.heap.size w w') : wpOp P ops Q j (fun a' w' => ∃ v, a' = a.put o.dst v ∧ J j (match o.dst with | some _ => v | none => undef) w' ∧ Below w.heap.size w w') a w := by
  unfold wpOp
  rw [ho]
  simp only [hw, if_true]
  left
  unfold Oper.wp
  rw [hr, Oper.upon_enter]
  refine Calls.mono hc fun e w' ⟨v, he, h1, h2⟩ => ?_
  subst he
  exact ⟨v, rfl, h1, h2⟩
end Go.Proofs.YtfplogjdcndohaaGreatDoor

/- RowKnown's walk: each place of each row of a few, and beside them. -/
namespace Go.Proofs.YtfplogjdcndohaaGreatDoor
open Go Go.RowKit Go.Sort
set_option linter.unusedVariables false
set_option linter.unusedSimpArgs false
set_option maxRecDepth 100000

def rowsL : List (List Cl.C) := [[], [⟨false,  0, ⟨#[]⟩⟩], [⟨false,  5, ⟨#[]⟩⟩, ⟨true,  0, ⟨#[]⟩⟩, ⟨false,  1, ⟨#[]⟩⟩], [⟨false,  (-5), ⟨#[]⟩⟩, ⟨false,  0, ⟨#[0]⟩⟩, ⟨false,  0, ⟨#[]⟩⟩], [⟨false,  5, ⟨#[]⟩⟩, ⟨false,  0, ⟨#[255]⟩⟩, ⟨false,  0, ⟨#[]⟩⟩], [⟨false,  5, ⟨#[]⟩⟩, ⟨false,  1, ⟨#[]⟩⟩, ⟨false,  0, ⟨#[]⟩⟩], [⟨false,  0, ⟨#[]⟩⟩, ⟨false,  0, ⟨#[]⟩⟩, ⟨false,  2, ⟨#[]⟩⟩], [⟨false,  0, ⟨#[]⟩⟩, ⟨false,  0, ⟨#[]⟩⟩, ⟨false,  0, ⟨#[]⟩⟩, ⟨false,  0, ⟨#[]⟩⟩]]
theorem lBring (p : Int) (h0 : -1 ≤ p) (h1 : p ≤ 4) (w : World) : Calls Tryz.prog 31 #[.int .i64 p, .int .i64 3] w fun e w' => e = .returned (.int .i64 (p % 3)) ∧ w = w' := by
  rcases (show p = -1 ∨ p = 0 ∨ p = 1 ∨ p = 2 ∨ p = 3 ∨ p = 4 by omega) with rfl | rfl | rfl | rfl | rfl | rfl
  all_goals
    go_enter Tryz.func31, Tryz.ntmps31
    go_wp2_with fail
    go_ret
    exact ⟨rfl, rfl⟩
theorem few_ok {r : List Cl.C} (h : Few r) : ∀ c ∈ r, Cl.I64 c.n ∧ c.s.size ≤ maxLen := fun c hc => ⟨h.2.1 c hc, by have := h.2.2 c hc; unfold maxLen; omega⟩
theorem rowsL_ok : ∀ i, i < 8 → Few (rowsL.getD i []) := by
  intro i hi
  rcases (show i = 0 ∨ i = 1 ∨ i = 2 ∨ i = 3 ∨ i = 4 ∨ i = 5 ∨ i = 6 ∨ i = 7 by omega) with rfl | rfl | rfl | rfl | rfl | rfl | rfl | rfl <;> exact few_of (by decide) (by decide +kernel)
theorem rowsL_small : ∀ i, i < 8 → ∀ c ∈ rowsL.getD i [], c.s.size ≤ 1100 := by
  intro i hi
  have h : ∀ i, i < 8 → ((rowsL.getD i []).all fun c => decide (c.s.size ≤ 1100)) = true := by decide +kernel
  have := List.all_eq_true.1 (h i hi)
  intro c hc
  simpa using this c hc
theorem ints_ok {l : List Int} (h : (∀ x ∈ l, -1 ≤ x ∧ x ≤ 5)) : ∀ x ∈ l, -9223372036854775808 ≤ x ∧ x ≤ 9223372036854775807 := fun x hx => by have := h x hx; omega
theorem colLit (w : World) (l : List Co) (cs : Array Value) (n g : Nat) (h : cs = (Gn.cells coc l).toArray) (hn : n = l.length) (hm : l.length ≤ 100) (hg : g = w.heap.size) : RdK (w.alloc (.cells cs 56)) (w.alloc (.cells cs 56)).heap.size (.slice (some ⟨g, 0, none⟩) n n) l := by
  subst hg
  exact Gn.Own.rd coL (Gn.Own.lit (T := 56) coL w 0 l cs n n h hn rfl (by simp only [maxLen]; omega) (Nat.zero_le _))
theorem rdK_nil (w : World) : RdK w w.heap.size (.slice none 0 0) [] := Gn.Rd.nil _ _
theorem intIn_nil (w : World) : IntIn w (.slice none 0 0) [] := ⟨Gn.Rd.nil _ _, by simp⟩
theorem rowIn_nil (w : World) : RowIn w (.slice none 0 0) [] := ⟨rdC_nil w, by simp⟩
/-- What lies: the rows. -/
structure KW (gR : Nat) (wb w : World) : Prop where
  b : Below wb.heap.size wb w
  t : TA w
  r : ∀ i, i < 8 → ∃ a n c, w.cell? ⟨gR, i, none⟩ = some (.slice a n c) ∧ RowIn w (.slice a n c) (rowsL.getD i [])
theorem KW.later {gR : Nat} {wb w w' : World} (h : KW gR wb w) (hb : Below w.heap.size w w') : KW gR wb w' :=
  ⟨up h.b hb, h.t.later hb, fun i hi => by
    obtain ⟨a, n, c, h1, h2⟩ := h.r i hi
    exact ⟨a, n, c, (hb.cell (block_lt_of_cell h1)).trans h1, h2.later hb⟩⟩
theorem keyR_le (ts : List Rw.Ty) (ps : List Int) (r : List Cl.C) (hr : ∀ c ∈ r, c.s.size ≤ 1100) (hl : ps.length ≤ 12) (a : Int × List Nat) (ha : Rw.keyR ts ps r = a) : a.2.length ≤ 30000 := by
  obtain ⟨d, l⟩ := a
  rcases keyR_cases ha with ⟨_, rfl⟩ | ⟨_, _, _, rfl⟩
  · exact Nat.zero_le _
  · have := key_le ts r hr ps
    show (Rw.key ts ps r).length ≤ 30000
    omega
theorem kn_key (W w1 : World) (T : TA w1) (kv pv rv : Value) (F : List Int) (r : List Cl.C) (hb : Below W.heap.size W w1) (hk : RdK w1 w1.heap.size kv k3) (hp : RdI w1 w1.heap.size pv F) (hr : RowIn w1 rv r) (hs : ∀ c ∈ r, c.s.size ≤ 1100) (hl : F.length ≤ 12) (hrl : r.length ≤ 100) :
    Calls Tryz.prog 25 #[kv, pv, rv] w1 fun e w2 => (∃ (x : ByteArray) (d : Int), e = .returned (.tuple #[.string x, .int .i64 d]) ∧ x.size ≤ 30000) ∧ Below W.heap.size W w2 := by
  obtain ⟨a, ha⟩ : ∃ a, Rw.keyR (tys k3) F r = a := ⟨_, rfl⟩
  exact (rowKey kv pv rv k3 F r w1 T hk hp hr.rd (by omega) (by omega) (fun c hc => (hr.ok c hc).1) (fun c hc => by have := hs c hc; omega) (by have := key_le (tys k3) r hs F; omega) a ha _ rfl).mono fun e w2 h => ⟨⟨_, _, h.1, by rw [str_size]; exact keyR_le _ _ _ hs hl a ha⟩, up hb h.2⟩
theorem kn_checks (W w1 : World) (T : TA w1) (kv pv rv : Value) (F : List Int) (r : List Cl.C) (hb : Below W.heap.size W w1) (hr : RowIn w1 rv r) (hF : ∀ x ∈ F, -1 ≤ x ∧ x ≤ 5) (hk : RdK w1 w1.heap.size kv k3) (hp : RdI w1 w1.heap.size pv F) :
    Calls Tryz.prog 3 #[kv, rv, pv] w1 fun e w2 => e = .returned (.bool true) ∧ Below W.heap.size W w2 ∧ Below w1.heap.size w1 w2 :=
  (rowChecks kv rv pv k3 r F w1 hk hr ⟨hp, ints_ok hF⟩ T).mono fun e w2 h => ⟨h.1, up hb h.2, h.2⟩
theorem kn_keys (W w1 : World) (T : TA w1) (kv pv rv : Value) (F : List Int) (r : List Cl.C) (s : ByteArray) (hb : Below W.heap.size W w1) (hr : RowIn w1 rv r) (hF : ∀ x ∈ F, -1 ≤ x ∧ x ≤ 5) (hs : s.size ≤ maxLen) (hk : RdK w1 w1.heap.size kv k3) (hp : RdI w1 w1.heap.size pv F) :
    Calls Tryz.prog 5 #[kv, pv, .agg #[rv, .string s]] w1 fun e w2 => e = .returned (.bool true) ∧ Below W.heap.size W w2 ∧ Below w1.heap.size w1 w2 :=
  (rowKeys kv pv rv k3 F r s w1 hk ⟨hp, ints_ok hF⟩ hr hs T).mono fun e w2 h => ⟨h.1, up hb h.2, h.2⟩
inductive Sp where
  | eq (v : Value) | rdk | rdi (l : List Int) | tup | str | num | any
def kj (L : Array Sp) (j : Nat) (v : Value) (w : World) : Prop := match L.getD j .any with
  | .eq u => v = u
  | .rdk => RdK w w.heap.size v k3
  | .rdi l => RdI w w.heap.size v l
  | .tup => ∃ (x : ByteArray) (d : Int), v = .tuple #[.string x, .int .i64 d] ∧ x.size ≤ 30000
  | .str => ∃ (x : ByteArray), v = .string x ∧ x.size ≤ 30000
  | .num => ∃ (d : Int), v = .int .i64 d
  | .any => True
theorem kj_later {L : Array Sp} : ∀ j v w w', kj L j v w → Below w.heap.size w w' → kj L j v w' := by
  intro j v w w' h hb
  unfold kj at *
  split <;> rename_i e <;> rw [e] at h <;> first | exact h | exact h.later hb
theorem Gr.below25 (j : Nat) (h : j < 25) : j = 0 ∨ j = 1 ∨ j = 2 ∨ j = 3 ∨ j = 4 ∨ j = 5 ∨ j = 6 ∨ j = 7 ∨ j = 8 ∨ j = 9 ∨ j = 10 ∨ j = 11 ∨ j = 12 ∨ j = 13 ∨ j = 14 ∨ j = 15 ∨ j = 16 ∨ j = 17 ∨ j = 18 ∨ j = 19 ∨ j = 20 ∨ j = 21 ∨ j = 22 ∨ j = 23 ∨ j = 24 := by omega
theorem Gr.below57 (j : Nat) (h : j < 57) : j = 0 ∨ j = 1 ∨ j = 2 ∨ j = 3 ∨ j = 4 ∨ j = 5 ∨ j = 6 ∨ j = 7 ∨ j = 8 ∨ j = 9 ∨ j = 10 ∨ j = 11 ∨ j = 12 ∨ j = 13 ∨ j = 14 ∨ j = 15 ∨ j = 16 ∨ j = 17 ∨ j = 18 ∨ j = 19 ∨ j = 20 ∨ j = 21 ∨ j = 22 ∨ j = 23 ∨ j = 24 ∨ j = 25 ∨ j = 26 ∨ j = 27 ∨ j = 28 ∨ j = 29 ∨ j = 30 ∨ j = 31 ∨ j = 32 ∨ j = 33 ∨ j = 34 ∨ j = 35 ∨ j = 36 ∨ j = 37 ∨ j = 38 ∨ j = 39 ∨ j = 40 ∨ j = 41 ∨ j = 42 ∨ j = 43 ∨ j = 44 ∨ j = 45 ∨ j = 46 ∨ j = 47 ∨ j = 48 ∨ j = 49 ∨ j = 50 ∨ j = 51 ∨ j = 52 ∨ j = 53 ∨ j = 54 ∨ j = 55 ∨ j = 56 := by omega
theorem yielded_of {ops : Array Oper} {ts : Array Value} {j s : Nat} {b : Bool} (h : dstOf ops j = some s) (e : ts.getD s undef = .bool b) : yielded ops ts j = some b := by
  unfold yielded
  have h' : (ops[j]?).bind (·.dst) = some s := h
  rw [h']
  rw [Array.getD_eq_getD_getElem?] at e
  simp only [Option.bind_some]
  cases hh : ts[s]? with
  | none => rw [hh] at e; cases e
  | some v => rw [hh] at e; simp only [Option.getD_some] at e; rw [e]
theorem wanted_of {o : Oper} {y : Nat → Option Bool} {j : Nat} {b : Bool} (h : o.guard = some (j, b)) (e : y j = some b) : Region.wanted o y = true := by
  unfold Region.wanted
  rw [h]
  simp [e]
theorem region_grow_merge {P : Program} {id : Nat} {ops : Array Oper} {Q : Exit → Act → World → Prop} (J : Nat → Value → World → Prop) (ws : List Nat) (R : Array Value → World → Prop) {a0 : Act} {w : World} (hm : P.follows .mixedOrders = true) (hB : growB ops a0.tmps.size = true)
    (hW : ((List.range ops.size).all fun j => match dstOf ops j with | some s => ws.contains s | none => true) = true) (hJ : ∀ j v w w', J j v w → Below w.heap.size w w' → J j v w')
    (hstep : ∀ (Q : Exit → Act → World → Prop) (j : Nat) (o : Oper) (a : Act) (w1 : World), ops[j]? = some o → Below w.drew.heap.size w.drew w1 → a.tmps.size = a0.tmps.size → (∀ s, (∀ j, j < ops.size → dstOf ops j ≠ some s) → a.tmps[s]? = a0.tmps[s]?) →
      (∀ e ∈ o.after, Region.binds .any e = true → J e.on (valOf ops a e.on) w1) → wpOp P ops Q j (fun a' w' => ∃ v, a' = a.put o.dst v ∧ J j (match o.dst with | some _ => v | none => undef) w' ∧ Below w1.heap.size w1 w') a w1)
    (hend : ∀ a w1, Below w.drew.heap.size w.drew w1 → (∀ j, j < ops.size → J j (valOf ops a j) w1) → R a.tmps w1)
    (k : ∀ (ts : Array Value) (w' : World), R ts w' → Q .normal ⟨fill ts ws a0.tmps, a0.defers⟩ w') : (Code.region id ops true).wp P Q a0 w := by
  refine region_merge ws R (region_grow J hm hB hJ (hstep _) fun a w1 hb hd hs hold hj => ⟨rfl, hd, hs, ?_, hend a w1 hb hj⟩) k
  apply Array.ext_getElem?
  intro i
  rw [blank_get, blank_get, hs]
  by_cases hi : i ∈ ws
  · by_cases h2 : i < a0.tmps.size
    · rw [if_pos ⟨hi, h2⟩, if_pos ⟨hi, h2⟩]
    · rw [if_neg (fun h => h2 h.2), if_neg (fun h => h2 h.2), Array.getElem?_eq_none (by omega), Array.getElem?_eq_none (by omega)]
  · rw [if_neg (fun h => hi h.1), if_neg (fun h => hi h.1)]
    refine hold i fun j hj e => hi ?_
    have := List.all_eq_true.1 hW j (List.mem_range.2 hj)
    rw [e] at this
    simpa using this
set_option maxHeartbeats 32000000 in
theorem rowKnown (w : World) (T : TA w) : Calls Tryz.prog 11 #[] w fun e w' => e = .returned (.bool true) ∧ Below w.heap.size w w' := by
  have l0 := rowLit w (rowsL.getD 1 []) #[.bool false, .int .i64 0, .string ⟨#[]⟩] 1 (w.heap.size) rfl rfl (by decide) (by simp)
  have b0 := box_new w (.cells #[.bool false, .int .i64 0, .string ⟨#[]⟩] 34)
  have l1 := rowLit (w.alloc (.cells #[.bool false, .int .i64 0, .string ⟨#[]⟩] 34)) (rowsL.getD 2 []) #[.bool false, .int .i64 5, .string ⟨#[]⟩, .bool true, .int .i64 0, .string ⟨#[]⟩, .bool false, .int .i64 1, .string ⟨#[]⟩] 3 (w.heap.size + 1) rfl rfl (by decide) (by simp)
  have b1 := box_new (w.alloc (.cells #[.bool false, .int .i64 0, .string ⟨#[]⟩] 34)) (.cells #[.bool false, .int .i64 5, .string ⟨#[]⟩, .bool true, .int .i64 0, .string ⟨#[]⟩, .bool false, .int .i64 1, .string ⟨#[]⟩] 34)
  have l2 := rowLit ((w.alloc (.cells #[.bool false, .int .i64 0, .string ⟨#[]⟩] 34)).alloc (.cells #[.bool false, .int .i64 5, .string ⟨#[]⟩, .bool true, .int .i64 0, .string ⟨#[]⟩, .bool false, .int .i64 1, .string ⟨#[]⟩] 34)) (rowsL.getD 3 []) #[.bool false, .int .i64 (-5), .string ⟨#[]⟩, .bool false, .int .i64 0, .string ⟨#[0]⟩, .bool false, .int .i64 0, .string ⟨#[]⟩] 3 (w.heap.size + 1 + 1) rfl rfl (by decide) (by simp)
  have b2 := box_new ((w.alloc (.cells #[.bool false, .int .i64 0, .string ⟨#[]⟩] 34)).alloc (.cells #[.bool false, .int .i64 5, .string ⟨#[]⟩, .bool true, .int .i64 0, .string ⟨#[]⟩, .bool false, .int .i64 1, .string ⟨#[]⟩] 34)) (.cells #[.bool false, .int .i64 (-5), .string ⟨#[]⟩, .bool false, .int .i64 0, .string ⟨#[0]⟩, .bool false, .int .i64 0, .string ⟨#[]⟩] 34)
  have l3 := rowLit (((w.alloc (.cells #[.bool false, .int .i64 0, .string ⟨#[]⟩] 34)).alloc (.cells #[.bool false, .int .i64 5, .string ⟨#[]⟩, .bool true, .int .i64 0, .string ⟨#[]⟩, .bool false, .int .i64 1, .string ⟨#[]⟩] 34)).alloc (.cells #[.bool false, .int .i64 (-5), .string ⟨#[]⟩, .bool false, .int .i64 0, .string ⟨#[0]⟩, .bool false, .int .i64 0, .string ⟨#[]⟩] 34)) (rowsL.getD 4 []) #[.bool false, .int .i64 5, .string ⟨#[]⟩, .bool false, .int .i64 0, .string ⟨#[255]⟩, .bool false, .int .i64 0, .string ⟨#[]⟩] 3 (w.heap.size + 1 + 1 + 1) rfl rfl (by decide) (by simp)
  have b3 := box_new (((w.alloc (.cells #[.bool false, .int .i64 0, .string ⟨#[]⟩] 34)).alloc (.cells #[.bool false, .int .i64 5, .string ⟨#[]⟩, .bool true, .int .i64 0, .string ⟨#[]⟩, .bool false, .int .i64 1, .string ⟨#[]⟩] 34)).alloc (.cells #[.bool false, .int .i64 (-5), .string ⟨#[]⟩, .bool false, .int .i64 0, .string ⟨#[0]⟩, .bool false, .int .i64 0, .string ⟨#[]⟩] 34)) (.cells #[.bool false, .int .i64 5, .string ⟨#[]⟩, .bool false, .int .i64 0, .string ⟨#[255]⟩, .bool false, .int .i64 0, .string ⟨#[]⟩] 34)
  have l4 := rowLit ((((w.alloc (.cells #[.bool false, .int .i64 0, .string ⟨#[]⟩] 34)).alloc (.cells #[.bool false, .int .i64 5, .string ⟨#[]⟩, .bool true, .int .i64 0, .string ⟨#[]⟩, .bool false, .int .i64 1, .string ⟨#[]⟩] 34)).alloc (.cells #[.bool false, .int .i64 (-5), .string ⟨#[]⟩, .bool false, .int .i64 0, .string ⟨#[0]⟩, .bool false, .int .i64 0, .string ⟨#[]⟩] 34)).alloc (.cells #[.bool false, .int .i64 5, .string ⟨#[]⟩, .bool false, .int .i64 0, .string ⟨#[255]⟩, .bool false, .int .i64 0, .string ⟨#[]⟩] 34)) (rowsL.getD 5 []) #[.bool false, .int .i64 5, .string ⟨#[]⟩, .bool false, .int .i64 1, .string ⟨#[]⟩, .bool false, .int .i64 0, .string ⟨#[]⟩] 3 (w.heap.size + 1 + 1 + 1 + 1) rfl rfl (by decide) (by simp)
  have b4 := box_new ((((w.alloc (.cells #[.bool false, .int .i64 0, .string ⟨#[]⟩] 34)).alloc (.cells #[.bool false, .int .i64 5, .string ⟨#[]⟩, .bool true, .int .i64 0, .string ⟨#[]⟩, .bool false, .int .i64 1, .string ⟨#[]⟩] 34)).alloc (.cells #[.bool false, .int .i64 (-5), .string ⟨#[]⟩, .bool false, .int .i64 0, .string ⟨#[0]⟩, .bool false, .int .i64 0, .string ⟨#[]⟩] 34)).alloc (.cells #[.bool false, .int .i64 5, .string ⟨#[]⟩, .bool false, .int .i64 0, .string ⟨#[255]⟩, .bool false, .int .i64 0, .string ⟨#[]⟩] 34)) (.cells #[.bool false, .int .i64 5, .string ⟨#[]⟩, .bool false, .int .i64 1, .string ⟨#[]⟩, .bool false, .int .i64 0, .string ⟨#[]⟩] 34)
  have l5 := rowLit (((((w.alloc (.cells #[.bool false, .int .i64 0, .string ⟨#[]⟩] 34)).alloc (.cells #[.bool false, .int .i64 5, .string ⟨#[]⟩, .bool true, .int .i64 0, .string ⟨#[]⟩, .bool false, .int .i64 1, .string ⟨#[]⟩] 34)).alloc (.cells #[.bool false, .int .i64 (-5), .string ⟨#[]⟩, .bool false, .int .i64 0, .string ⟨#[0]⟩, .bool false, .int .i64 0, .string ⟨#[]⟩] 34)).alloc (.cells #[.bool false, .int .i64 5, .string ⟨#[]⟩, .bool false, .int .i64 0, .string ⟨#[255]⟩, .bool false, .int .i64 0, .string ⟨#[]⟩] 34)).alloc (.cells #[.bool false, .int .i64 5, .string ⟨#[]⟩, .bool false, .int .i64 1, .string ⟨#[]⟩, .bool false, .int .i64 0, .string ⟨#[]⟩] 34)) (rowsL.getD 6 []) #[.bool false, .int .i64 0, .string ⟨#[]⟩, .bool false, .int .i64 0, .string ⟨#[]⟩, .bool false, .int .i64 2, .string ⟨#[]⟩] 3 (w.heap.size + 1 + 1 + 1 + 1 + 1) rfl rfl (by decide) (by simp)
  have b5 := box_new (((((w.alloc (.cells #[.bool false, .int .i64 0, .string ⟨#[]⟩] 34)).alloc (.cells #[.bool false, .int .i64 5, .string ⟨#[]⟩, .bool true, .int .i64 0, .string ⟨#[]⟩, .bool false, .int .i64 1, .string ⟨#[]⟩] 34)).alloc (.cells #[.bool false, .int .i64 (-5), .string ⟨#[]⟩, .bool false, .int .i64 0, .string ⟨#[0]⟩, .bool false, .int .i64 0, .string ⟨#[]⟩] 34)).alloc (.cells #[.bool false, .int .i64 5, .string ⟨#[]⟩, .bool false, .int .i64 0, .string ⟨#[255]⟩, .bool false, .int .i64 0, .string ⟨#[]⟩] 34)).alloc (.cells #[.bool false, .int .i64 5, .string ⟨#[]⟩, .bool false, .int .i64 1, .string ⟨#[]⟩, .bool false, .int .i64 0, .string ⟨#[]⟩] 34)) (.cells #[.bool false, .int .i64 0, .string ⟨#[]⟩, .bool false, .int .i64 0, .string ⟨#[]⟩, .bool false, .int .i64 2, .string ⟨#[]⟩] 34)
  have l6 := rowLit ((((((w.alloc (.cells #[.bool false, .int .i64 0, .string ⟨#[]⟩] 34)).alloc (.cells #[.bool false, .int .i64 5, .string ⟨#[]⟩, .bool true, .int .i64 0, .string ⟨#[]⟩, .bool false, .int .i64 1, .string ⟨#[]⟩] 34)).alloc (.cells #[.bool false, .int .i64 (-5), .string ⟨#[]⟩, .bool false, .int .i64 0, .string ⟨#[0]⟩, .bool false, .int .i64 0, .string ⟨#[]⟩] 34)).alloc (.cells #[.bool false, .int .i64 5, .string ⟨#[]⟩, .bool false, .int .i64 0, .string ⟨#[255]⟩, .bool false, .int .i64 0, .string ⟨#[]⟩] 34)).alloc (.cells #[.bool false, .int .i64 5, .string ⟨#[]⟩, .bool false, .int .i64 1, .string ⟨#[]⟩, .bool false, .int .i64 0, .string ⟨#[]⟩] 34)).alloc (.cells #[.bool false, .int .i64 0, .string ⟨#[]⟩, .bool false, .int .i64 0, .string ⟨#[]⟩, .bool false, .int .i64 2, .string ⟨#[]⟩] 34)) (rowsL.getD 7 []) #[.bool false, .int .i64 0, .string ⟨#[]⟩, .bool false, .int .i64 0, .string ⟨#[]⟩, .bool false, .int .i64 0, .string ⟨#[]⟩, .bool false, .int .i64 0, .string ⟨#[]⟩] 4 (w.heap.size + 1 + 1 + 1 + 1 + 1 + 1) rfl rfl (by decide) (by simp)
  have b6 := box_new ((((((w.alloc (.cells #[.bool false, .int .i64 0, .string ⟨#[]⟩] 34)).alloc (.cells #[.bool false, .int .i64 5, .string ⟨#[]⟩, .bool true, .int .i64 0, .string ⟨#[]⟩, .bool false, .int .i64 1, .string ⟨#[]⟩] 34)).alloc (.cells #[.bool false, .int .i64 (-5), .string ⟨#[]⟩, .bool false, .int .i64 0, .string ⟨#[0]⟩, .bool false, .int .i64 0, .string ⟨#[]⟩] 34)).alloc (.cells #[.bool false, .int .i64 5, .string ⟨#[]⟩, .bool false, .int .i64 0, .string ⟨#[255]⟩, .bool false, .int .i64 0, .string ⟨#[]⟩] 34)).alloc (.cells #[.bool false, .int .i64 5, .string ⟨#[]⟩, .bool false, .int .i64 1, .string ⟨#[]⟩, .bool false, .int .i64 0, .string ⟨#[]⟩] 34)).alloc (.cells #[.bool false, .int .i64 0, .string ⟨#[]⟩, .bool false, .int .i64 0, .string ⟨#[]⟩, .bool false, .int .i64 2, .string ⟨#[]⟩] 34)) (.cells #[.bool false, .int .i64 0, .string ⟨#[]⟩, .bool false, .int .i64 0, .string ⟨#[]⟩, .bool false, .int .i64 0, .string ⟨#[]⟩, .bool false, .int .i64 0, .string ⟨#[]⟩] 34)
  have b7 := box_new (((((((w.alloc (.cells #[.bool false, .int .i64 0, .string ⟨#[]⟩] 34)).alloc (.cells #[.bool false, .int .i64 5, .string ⟨#[]⟩, .bool true, .int .i64 0, .string ⟨#[]⟩, .bool false, .int .i64 1, .string ⟨#[]⟩] 34)).alloc (.cells #[.bool false, .int .i64 (-5), .string ⟨#[]⟩, .bool false, .int .i64 0, .string ⟨#[0]⟩, .bool false, .int .i64 0, .string ⟨#[]⟩] 34)).alloc (.cells #[.bool false, .int .i64 5, .string ⟨#[]⟩, .bool false, .int .i64 0, .string ⟨#[255]⟩, .bool false, .int .i64 0, .string ⟨#[]⟩] 34)).alloc (.cells #[.bool false, .int .i64 5, .string ⟨#[]⟩, .bool false, .int .i64 1, .string ⟨#[]⟩, .bool false, .int .i64 0, .string ⟨#[]⟩] 34)).alloc (.cells #[.bool false, .int .i64 0, .string ⟨#[]⟩, .bool false, .int .i64 0, .string ⟨#[]⟩, .bool false, .int .i64 2, .string ⟨#[]⟩] 34)).alloc (.cells #[.bool false, .int .i64 0, .string ⟨#[]⟩, .bool false, .int .i64 0, .string ⟨#[]⟩, .bool false, .int .i64 0, .string ⟨#[]⟩, .bool false, .int .i64 0, .string ⟨#[]⟩] 34)) (.cells #[.slice none 0 0, .slice (some ⟨w.heap.size, 0, none⟩) 1 1, .slice (some ⟨w.heap.size + 1, 0, none⟩) 3 3, .slice (some ⟨w.heap.size + 1 + 1, 0, none⟩) 3 3, .slice (some ⟨w.heap.size + 1 + 1 + 1, 0, none⟩) 3 3, .slice (some ⟨w.heap.size + 1 + 1 + 1 + 1, 0, none⟩) 3 3, .slice (some ⟨w.heap.size + 1 + 1 + 1 + 1 + 1, 0, none⟩) 3 3, .slice (some ⟨w.heap.size + 1 + 1 + 1 + 1 + 1 + 1, 0, none⟩) 4 4] 23)
  have x7 := Blk.new (((((((w.alloc (.cells #[.bool false, .int .i64 0, .string ⟨#[]⟩] 34)).alloc (.cells #[.bool false, .int .i64 5, .string ⟨#[]⟩, .bool true, .int .i64 0, .string ⟨#[]⟩, .bool false, .int .i64 1, .string ⟨#[]⟩] 34)).alloc (.cells #[.bool false, .int .i64 (-5), .string ⟨#[]⟩, .bool false, .int .i64 0, .string ⟨#[0]⟩, .bool false, .int .i64 0, .string ⟨#[]⟩] 34)).alloc (.cells #[.bool false, .int .i64 5, .string ⟨#[]⟩, .bool false, .int .i64 0, .string ⟨#[255]⟩, .bool false, .int .i64 0, .string ⟨#[]⟩] 34)).alloc (.cells #[.bool false, .int .i64 5, .string ⟨#[]⟩, .bool false, .int .i64 1, .string ⟨#[]⟩, .bool false, .int .i64 0, .string ⟨#[]⟩] 34)).alloc (.cells #[.bool false, .int .i64 0, .string ⟨#[]⟩, .bool false, .int .i64 0, .string ⟨#[]⟩, .bool false, .int .i64 2, .string ⟨#[]⟩] 34)).alloc (.cells #[.bool false, .int .i64 0, .string ⟨#[]⟩, .bool false, .int .i64 0, .string ⟨#[]⟩, .bool false, .int .i64 0, .string ⟨#[]⟩, .bool false, .int .i64 0, .string ⟨#[]⟩] 34)) 23 #[.slice none 0 0, .slice (some ⟨w.heap.size, 0, none⟩) 1 1, .slice (some ⟨w.heap.size + 1, 0, none⟩) 3 3, .slice (some ⟨w.heap.size + 1 + 1, 0, none⟩) 3 3, .slice (some ⟨w.heap.size + 1 + 1 + 1, 0, none⟩) 3 3, .slice (some ⟨w.heap.size + 1 + 1 + 1 + 1, 0, none⟩) 3 3, .slice (some ⟨w.heap.size + 1 + 1 + 1 + 1 + 1, 0, none⟩) 3 3, .slice (some ⟨w.heap.size + 1 + 1 + 1 + 1 + 1 + 1, 0, none⟩) 4 4]
  have HB := Lib.hid (up (up (up (up (up (up (up b0 b1) b2) b3) b4) b5) b6) b7)
  have r0 := (((((((l0).later b1).later b2).later b3).later b4).later b5).later b6).later b7
  have r1 := ((((((l1).later b2).later b3).later b4).later b5).later b6).later b7
  have r2 := (((((l2).later b3).later b4).later b5).later b6).later b7
  have r3 := ((((l3).later b4).later b5).later b6).later b7
  have r4 := (((l4).later b5).later b6).later b7
  have r5 := ((l5).later b6).later b7
  have r6 := (l6).later b7
  clear l0 b0 l1 b1 l2 b2 l3 b3 l4 b4 l5 b5 l6 b6
  have HT := Lib.hid (fun w1 hb => T.later (w' := w1) (up HB.out hb))
  rw [show (((((((w.alloc (.cells #[.bool false, .int .i64 0, .string ⟨#[]⟩] 34)).alloc (.cells #[.bool false, .int .i64 5, .string ⟨#[]⟩, .bool true, .int .i64 0, .string ⟨#[]⟩, .bool false, .int .i64 1, .string ⟨#[]⟩] 34)).alloc (.cells #[.bool false, .int .i64 (-5), .string ⟨#[]⟩, .bool false, .int .i64 0, .string ⟨#[0]⟩, .bool false, .int .i64 0, .string ⟨#[]⟩] 34)).alloc (.cells #[.bool false, .int .i64 5, .string ⟨#[]⟩, .bool false, .int .i64 0, .string ⟨#[255]⟩, .bool false, .int .i64 0, .string ⟨#[]⟩] 34)).alloc (.cells #[.bool false, .int .i64 5, .string ⟨#[]⟩, .bool false, .int .i64 1, .string ⟨#[]⟩, .bool false, .int .i64 0, .string ⟨#[]⟩] 34)).alloc (.cells #[.bool false, .int .i64 0, .string ⟨#[]⟩, .bool false, .int .i64 0, .string ⟨#[]⟩, .bool false, .int .i64 2, .string ⟨#[]⟩] 34)).alloc (.cells #[.bool false, .int .i64 0, .string ⟨#[]⟩, .bool false, .int .i64 0, .string ⟨#[]⟩, .bool false, .int .i64 0, .string ⟨#[]⟩, .bool false, .int .i64 0, .string ⟨#[]⟩] 34)).heap.size = w.heap.size + 1 + 1 + 1 + 1 + 1 + 1 + 1 by simp] at x7
  have HKW : Hid (KW (w.heap.size + 1 + 1 + 1 + 1 + 1 + 1 + 1) ((((((((w.alloc (.cells #[.bool false, .int .i64 0, .string ⟨#[]⟩] 34)).alloc (.cells #[.bool false, .int .i64 5, .string ⟨#[]⟩, .bool true, .int .i64 0, .string ⟨#[]⟩, .bool false, .int .i64 1, .string ⟨#[]⟩] 34)).alloc (.cells #[.bool false, .int .i64 (-5), .string ⟨#[]⟩, .bool false, .int .i64 0, .string ⟨#[0]⟩, .bool false, .int .i64 0, .string ⟨#[]⟩] 34)).alloc (.cells #[.bool false, .int .i64 5, .string ⟨#[]⟩, .bool false, .int .i64 0, .string ⟨#[255]⟩, .bool false, .int .i64 0, .string ⟨#[]⟩] 34)).alloc (.cells #[.bool false, .int .i64 5, .string ⟨#[]⟩, .bool false, .int .i64 1, .string ⟨#[]⟩, .bool false, .int .i64 0, .string ⟨#[]⟩] 34)).alloc (.cells #[.bool false, .int .i64 0, .string ⟨#[]⟩, .bool false, .int .i64 0, .string ⟨#[]⟩, .bool false, .int .i64 2, .string ⟨#[]⟩] 34)).alloc (.cells #[.bool false, .int .i64 0, .string ⟨#[]⟩, .bool false, .int .i64 0, .string ⟨#[]⟩, .bool false, .int .i64 0, .string ⟨#[]⟩, .bool false, .int .i64 0, .string ⟨#[]⟩] 34)).alloc (.cells #[.slice none 0 0, .slice (some ⟨w.heap.size, 0, none⟩) 1 1, .slice (some ⟨w.heap.size + 1, 0, none⟩) 3 3, .slice (some ⟨w.heap.size + 1 + 1, 0, none⟩) 3 3, .slice (some ⟨w.heap.size + 1 + 1 + 1, 0, none⟩) 3 3, .slice (some ⟨w.heap.size + 1 + 1 + 1 + 1, 0, none⟩) 3 3, .slice (some ⟨w.heap.size + 1 + 1 + 1 + 1 + 1, 0, none⟩) 3 3, .slice (some ⟨w.heap.size + 1 + 1 + 1 + 1 + 1 + 1, 0, none⟩) 4 4] 23)) ((((((((w.alloc (.cells #[.bool false, .int .i64 0, .string ⟨#[]⟩] 34)).alloc (.cells #[.bool false, .int .i64 5, .string ⟨#[]⟩, .bool true, .int .i64 0, .string ⟨#[]⟩, .bool false, .int .i64 1, .string ⟨#[]⟩] 34)).alloc (.cells #[.bool false, .int .i64 (-5), .string ⟨#[]⟩, .bool false, .int .i64 0, .string ⟨#[0]⟩, .bool false, .int .i64 0, .string ⟨#[]⟩] 34)).alloc (.cells #[.bool false, .int .i64 5, .string ⟨#[]⟩, .bool false, .int .i64 0, .string ⟨#[255]⟩, .bool false, .int .i64 0, .string ⟨#[]⟩] 34)).alloc (.cells #[.bool false, .int .i64 5, .string ⟨#[]⟩, .bool false, .int .i64 1, .string ⟨#[]⟩, .bool false, .int .i64 0, .string ⟨#[]⟩] 34)).alloc (.cells #[.bool false, .int .i64 0, .string ⟨#[]⟩, .bool false, .int .i64 0, .string ⟨#[]⟩, .bool false, .int .i64 2, .string ⟨#[]⟩] 34)).alloc (.cells #[.bool false, .int .i64 0, .string ⟨#[]⟩, .bool false, .int .i64 0, .string ⟨#[]⟩, .bool false, .int .i64 0, .string ⟨#[]⟩, .bool false, .int .i64 0, .string ⟨#[]⟩] 34)).alloc (.cells #[.slice none 0 0, .slice (some ⟨w.heap.size, 0, none⟩) 1 1, .slice (some ⟨w.heap.size + 1, 0, none⟩) 3 3, .slice (some ⟨w.heap.size + 1 + 1, 0, none⟩) 3 3, .slice (some ⟨w.heap.size + 1 + 1 + 1, 0, none⟩) 3 3, .slice (some ⟨w.heap.size + 1 + 1 + 1 + 1, 0, none⟩) 3 3, .slice (some ⟨w.heap.size + 1 + 1 + 1 + 1 + 1, 0, none⟩) 3 3, .slice (some ⟨w.heap.size + 1 + 1 + 1 + 1 + 1 + 1, 0, none⟩) 4 4] 23))) := Lib.hid ⟨Below.refl _ _, HT.out _ (Below.refl _ _), fun i hi => by
    rcases (show i = 0 ∨ i = 1 ∨ i = 2 ∨ i = 3 ∨ i = 4 ∨ i = 5 ∨ i = 6 ∨ i = 7 by omega) with rfl | rfl | rfl | rfl | rfl | rfl | rfl | rfl
    · exact ⟨_, _, _, x7.cell 0, ⟨rdC_nil _, few_ok (rowsL_ok 0 (by decide))⟩⟩
    · exact ⟨_, _, _, x7.cell 1, ⟨r0, few_ok (rowsL_ok 1 (by decide))⟩⟩
    · exact ⟨_, _, _, x7.cell 2, ⟨r1, few_ok (rowsL_ok 2 (by decide))⟩⟩
    · exact ⟨_, _, _, x7.cell 3, ⟨r2, few_ok (rowsL_ok 3 (by decide))⟩⟩
    · exact ⟨_, _, _, x7.cell 4, ⟨r3, few_ok (rowsL_ok 4 (by decide))⟩⟩
    · exact ⟨_, _, _, x7.cell 5, ⟨r4, few_ok (rowsL_ok 5 (by decide))⟩⟩
    · exact ⟨_, _, _, x7.cell 6, ⟨r5, few_ok (rowsL_ok 6 (by decide))⟩⟩
    · exact ⟨_, _, _, x7.cell 7, ⟨r6, few_ok (rowsL_ok 7 (by decide))⟩⟩⟩
  clear x7 r0 r1 r2 r3 r4 r5 r6 T
  go_enter Tryz.func11, Tryz.ntmps11
  go_wp2_with fail
  generalize (((((((w.alloc (.cells #[.bool false, .int .i64 0, .string ⟨#[]⟩] 34)).alloc (.cells #[.bool false, .int .i64 5, .string ⟨#[]⟩, .bool true, .int .i64 0, .string ⟨#[]⟩, .bool false, .int .i64 1, .string ⟨#[]⟩] 34)).alloc (.cells #[.bool false, .int .i64 (-5), .string ⟨#[]⟩, .bool false, .int .i64 0, .string ⟨#[0]⟩, .bool false, .int .i64 0, .string ⟨#[]⟩] 34)).alloc (.cells #[.bool false, .int .i64 5, .string ⟨#[]⟩, .bool false, .int .i64 0, .string ⟨#[255]⟩, .bool false, .int .i64 0, .string ⟨#[]⟩] 34)).alloc (.cells #[.bool false, .int .i64 5, .string ⟨#[]⟩, .bool false, .int .i64 1, .string ⟨#[]⟩, .bool false, .int .i64 0, .string ⟨#[]⟩] 34)).alloc (.cells #[.bool false, .int .i64 0, .string ⟨#[]⟩, .bool false, .int .i64 0, .string ⟨#[]⟩, .bool false, .int .i64 2, .string ⟨#[]⟩] 34)).alloc (.cells #[.bool false, .int .i64 0, .string ⟨#[]⟩, .bool false, .int .i64 0, .string ⟨#[]⟩, .bool false, .int .i64 0, .string ⟨#[]⟩, .bool false, .int .i64 0, .string ⟨#[]⟩] 34)).alloc (.cells #[.slice none 0 0, .slice (some ⟨w.heap.size, 0, none⟩) 1 1, .slice (some ⟨w.heap.size + 1, 0, none⟩) 3 3, .slice (some ⟨w.heap.size + 1 + 1, 0, none⟩) 3 3, .slice (some ⟨w.heap.size + 1 + 1 + 1, 0, none⟩) 3 3, .slice (some ⟨w.heap.size + 1 + 1 + 1 + 1, 0, none⟩) 3 3, .slice (some ⟨w.heap.size + 1 + 1 + 1 + 1 + 1, 0, none⟩) 3 3, .slice (some ⟨w.heap.size + 1 + 1 + 1 + 1 + 1 + 1, 0, none⟩) 4 4] 23) = wb at *
  obtain ⟨gR, hgR⟩ : ∃ g, w.heap.size + 1 + 1 + 1 + 1 + 1 + 1 + 1 = g := ⟨_, rfl⟩
  rw [hgR] at HKW
  simp only [hgR]
  clear hgR
  go_loopw [2] (fun i wr => ∃ k : Nat, k ≤ 8 ∧ i = .int .i64 (k : Nat) ∧ Hid (KW gR wb wr)) (fun i _ => 8 - (intOf i).toNat)
  case atStart => exact ⟨0, by omega, by rfl, HKW⟩
  case round =>
    obtain ⟨k, hk, rfl, HK1⟩ := hrel
    by_cases hlt : k < 8
    · have hlt1 : (k : Int) < 8 := by omega
      go_wp2_with fail
      go_loopw [3] (fun i wr => ∃ p : Int, -1 ≤ p ∧ p ≤ 5 ∧ i = .int .i64 p ∧ Hid (KW gR wb wr)) (fun i _ => (5 - intOf i).toNat)
      case atStart => exact ⟨-1, by omega, by omega, rfl, HK1⟩
      case round =>
        obtain ⟨p, hp0, hp1, rfl, HK2⟩ := hrel
        by_cases hpl : p < 5
        · go_wp2_with fail
          go_loopw [4] (fun i wr => ∃ q : Int, -1 ≤ q ∧ q ≤ 4 ∧ i = .int .i64 q ∧ Hid (KW gR wb wr)) (fun i _ => (4 - intOf i).toNat)
          case atStart => exact ⟨-1, by omega, by omega, rfl, HK2⟩
          case round =>
            obtain ⟨q, hq0, hq1, rfl, HK3⟩ := hrel
            by_cases hql : q < 4
            · clear HK1 HK2 HKW HB HT
              go_wp2_with fail
              obtain ⟨ra, rn, rc, hcell, hrow⟩ := HK3.out.r k hlt
              have HROW := Lib.hid hrow
              have HFEW := Lib.hid (rowsL_ok k hlt)
              have HSM := Lib.hid (rowsL_small k hlt)
              clear hrow
              generalize rowsL.getD k [] = r at *
              refine region_merge [51, 52, 53, 54, 55, 56, 57, 58, 59, 60, 61, 62, 63, 64, 5, 6] (fun ts w' => (∃ x : ByteArray, ts.getD 5 undef = .string x ∧ x.size ≤ 30000) ∧ Below wr.heap.size wr w') ?_ ?_
              · have TH := Lib.hid (fun (w1 : World) (hb : Below wr.heap.size wr w1) => three_at wr w1 hb)
                have SK := Lib.hid (fun (w1 : World) (hb : Below wr.heap.size wr w1) => And.intro hb ((hb.cell (block_lt_of_cell hcell)).trans hcell))
                have BRp := Lib.hid (fun w1 => lBring p (by omega) (by omega) w1)
                have BRq := Lib.hid (fun w1 => lBring q (by omega) (by omega) w1)
                have KE := Lib.hid (fun (w1 : World) (kv pv : Value) (hb : Below wr.heap.size wr w1) (hk : RdK w1 w1.heap.size kv k3) (hp : RdI w1 w1.heap.size pv [p % 3, q % 3]) => kn_key wr w1 (HK3.out.t.later hb) kv pv (.slice ra rn rc) [p % 3, q % 3] r hb hk hp (HROW.out.later hb) HSM.out (by simp) HFEW.out.1)
                go_region_held3 (fun wS => Below wr.heap.size wr wS ∧ wS.cell? ⟨gR, k, none⟩ = some (.slice ra rn rc))
                  (first | exact SK.out _ HC1.out | exact SK.out _ (up_box HA1.out _) | exact SK.out _ HA1.out | exact SK.out _ (up_box (Below.refl _ _) _) | exact SK.out _ (up_box (Below.refl _ _) _).drew | exact SK.out _ (Below.refl _ _).drew | exact SK.out _ (Below.refl _ _) | fail "keep")
                  ((first
                    | (go_at_call 25; (with_reducible refine (KE.out _ _ _ HA1.out HK1.out HI1.out).mono ?_); rintro e c1 ⟨⟨x, d, rfl, hxs⟩, h⟩; have HC1 := Lib.hid h; have HXS := Lib.hid hxs; clear h hxs)
                    | (go_at_call 25; (with_reducible refine (KE.out (a1.alloc (.cells #[.int .i64 (p % 3), .int .i64 (q % 3)] 3)) _ _ (up_box HA1.out _) (HK1.out.later (box_new _ _)) (intLit a1 [(p % 3), (q % 3)] #[.int .i64 (p % 3), .int .i64 (q % 3)] 2 a1.heap.size rfl rfl (by simp) rfl)).mono ?_); rintro e c1 ⟨⟨x, d, rfl, hxs⟩, h⟩; have HC1 := Lib.hid h; have HXS := Lib.hid hxs; clear h hxs)
                    | (go_at_call 30; (with_reducible refine (TH.out (wr.alloc (.cells #[.int .i64 (p % 3), .int .i64 (q % 3)] 3)).drew ((up_box (Below.refl _ _) _).drew)).mono ?_); rintro e a1 ⟨t1, u1, rfl, hk, h, b⟩; have HA1 := Lib.hid h; have HK1 := Lib.hid hk; have HI1 := Lib.hid ((drewI (intLit wr [(p % 3), (q % 3)] #[.int .i64 (p % 3), .int .i64 (q % 3)] 2 wr.heap.size rfl rfl (by simp) rfl)).later b); clear h b hk)
                    | (go_at_call 30; (with_reducible refine (TH.out wr.drew ((Below.refl _ _).drew)).mono ?_); rintro e a1 ⟨t1, u1, rfl, hk, h, b⟩; have HA1 := Lib.hid h; have HK1 := Lib.hid hk; clear h b hk)
                    | (go_at_call 31; (with_reducible refine (BRp.out _).mono ?_); rintro e wx ⟨rfl, rfl⟩)
                    | (go_at_call 31; (with_reducible refine (BRq.out _).mono ?_); rintro e wx ⟨rfl, rfl⟩)
                  ))
                all_goals exact ⟨rfl, rfl, rfl, by kernel_rfl, ⟨x, rfl, HXS.out⟩, HC1.out⟩
              · rintro ts w' ⟨⟨x, hx, hxs⟩, hb⟩
                have HK4 := Lib.hid (HK3.out.later hb)
                simp only [fill, List.setIfInBounds_toArray, List.set_cons_succ, List.set_cons_zero]
                obtain ⟨ra, rn, rc, hcell, hrow⟩ := HK4.out.r k hlt
                have HROW := Lib.hid hrow
                have HXM := Lib.hid (show x.size ≤ maxLen by unfold maxLen; omega)
                obtain ⟨y, hy⟩ : ∃ y, x.extract 0 ((x.size : Int) / 2).toNat = y := ⟨_, rfl⟩
                have hwr : IntKind.i64.wrap ((x.size : Int) / 2) = (x.size : Int) / 2 := IntWalk.i64_in _ ⟨by omega, by omega⟩
                have hsl : ∀ w, (Instr.slice 9 (.string x) none (some (.int .i64 ((x.size : Int) / 2))) none).run Tryz.prog w = .ok (.string y) w := fun w => by
                  rw [run_slice_string_to_if w 9 x .i64 _ Tryz.underlying9, if_pos (by omega), hy]
                have HYM := Lib.hid (show y.size ≤ maxLen by rw [← hy]; unfold maxLen; simp; omega)
                clear hrow hy hb HK3
                rw [hx]
                generalize ts.getD 6 undef = t6
                have TH := Lib.hid (fun (w1 : World) (hb : Below w'.heap.size w' w1) => three_at w' w1 hb)
                have SK := Lib.hid (fun (w1 : World) (hb : Below w'.heap.size w' w1) => And.intro hb ((hb.cell (block_lt_of_cell hcell)).trans hcell))
                have BRp := Lib.hid (fun w1 => lBring p (by omega) (by omega) w1)
                have BRq := Lib.hid (fun w1 => lBring q (by omega) (by omega) w1)
                have hpq : ∀ z ∈ [p, q], -1 ≤ z ∧ z ≤ 5 := by intro z hz; simp at hz; omega
                have hq1 : ∀ z ∈ [q], -1 ≤ z ∧ z ≤ 5 := by intro z hz; simp at hz; omega
                have hbr : ∀ z ∈ [p % 3, q % 3], -1 ≤ z ∧ z ≤ 5 := by intro z hz; simp at hz; omega
                have L1 := Lib.hid (fun (w1 : World) (kv pv : Value) (hb : Below w'.heap.size w' w1) (hk : RdK w1 w1.heap.size kv k3) (hp : RdI w1 w1.heap.size pv [p, q]) => kn_checks w' w1 (HK4.out.t.later hb) kv pv (.slice ra rn rc) [p, q] _ hb (HROW.out.later hb) hpq hk hp)
                have L2 := Lib.hid (fun (w1 : World) (kv pv : Value) (hb : Below w'.heap.size w' w1) (hk : RdK w1 w1.heap.size kv k3) (hp : RdI w1 w1.heap.size pv [p, q]) => kn_keys w' w1 (HK4.out.t.later hb) kv pv (.slice ra rn rc) [p, q] _ x hb (HROW.out.later hb) hpq HXM.out hk hp)
                have L3 := Lib.hid (fun (w1 : World) (kv pv : Value) (hb : Below w'.heap.size w' w1) (hk : RdK w1 w1.heap.size kv k3) (hp : RdI w1 w1.heap.size pv [q]) => kn_keys w' w1 (HK4.out.t.later hb) kv pv (.slice ra rn rc) [q] _ y hb (HROW.out.later hb) hq1 HYM.out hk hp)
                have L4 := Lib.hid (fun (w1 : World) (kv pv : Value) (hb : Below w'.heap.size w' w1) (hk : RdK w1 w1.heap.size kv k3) (hp : RdI w1 w1.heap.size pv [p % 3, q % 3]) => kn_keys w' w1 (HK4.out.t.later hb) kv pv (.slice ra rn rc) [p % 3, q % 3] _ x hb (HROW.out.later hb) hbr HXM.out hk hp)
                clear hpq hq1 hbr
                go_wp2_with fail
                refine region_grow_merge (kj #[.rdk, .eq (.slice (some ⟨gR, 0, none⟩) 8 8), .eq (.int .i64 (k : Nat)), .eq (.pointer (some ⟨gR, k, none⟩)), .eq (.slice ra rn rc), .eq (.int .i64 p), .eq (.int .i64 q), .rdi [p, q], .eq (.bool true), .eq (.bool false), .eq (.bool false), .rdk, .eq (.int .i64 p), .eq (.int .i64 q), .rdi [p, q], .eq (.slice (some ⟨gR, 0, none⟩) 8 8), .eq (.int .i64 (k : Nat)), .eq (.pointer (some ⟨gR, k, none⟩)), .eq (.slice ra rn rc), .eq (.string x), .eq (.agg #[.slice ra rn rc, .string x]), .eq (.bool true), .eq (.bool false), .eq (.bool false), .eq (.bool false), .rdk, .eq (.int .i64 q), .rdi [q], .eq (.slice (some ⟨gR, 0, none⟩) 8 8), .eq (.int .i64 (k : Nat)), .eq (.pointer (some ⟨gR, k, none⟩)), .eq (.slice ra rn rc), .eq (.string x), .eq (.string x), .eq (.int .i64 (x.size : Nat)), .eq (.int .i64 ((x.size : Int) / 2)), .eq (.string y), .eq (.agg #[.slice ra rn rc, .string y]), .eq (.bool true), .eq (.bool false), .eq (.bool false), .eq (.bool false), .rdk, .eq (.int .i64 p), .eq (.int .i64 (p % 3)), .eq (.int .i64 q), .eq (.int .i64 (q % 3)), .rdi [p % 3, q % 3], .eq (.slice (some ⟨gR, 0, none⟩) 8 8), .eq (.int .i64 (k : Nat)), .eq (.pointer (some ⟨gR, k, none⟩)), .eq (.slice ra rn rc), .eq (.string x), .eq (.agg #[.slice ra rn rc, .string x]), .eq (.bool true), .eq (.bool false), .eq (.bool false)]) [65, 66, 67, 68, 69, 70, 71, 72, 73, 74, 75, 76, 77, 78, 79, 80, 81, 82, 83, 84, 85, 86, 87, 88, 89, 90, 91, 92, 93, 94, 95, 96, 97, 98, 99, 100, 101, 102, 103, 104, 105, 106, 107, 108, 109, 110, 111, 112, 113, 114, 115, 116, 117, 118, 119, 120, 121] (fun ts2 w2 => ts2.getD 121 undef = .bool false ∧ Below w'.heap.size w' w2) (by kernel_rfl) (by kernel_rfl) (by kernel_rfl) kj_later ?_ ?_ ?_
                · intro QQ j o a w1 ho hb hs hold hdep
                  have hj : j < 57 := (Array.getElem?_eq_some_iff.1 ho).1
                  have hb' : Below w'.heap.size w' w1 := up (Below.refl _ _).drew hb
                  have e1 : a.eval (.tmp 1) = .slice (some ⟨gR, 0, none⟩) 8 8 := by
                    show a.tmps.getD 1 undef = _
                    rw [Array.getD_eq_getD_getElem?, hold 1 (by decide +kernel)]; rfl
                  have e2 : a.eval (.tmp 2) = .int .i64 (k : Nat) := by
                    show a.tmps.getD 2 undef = _
                    rw [Array.getD_eq_getD_getElem?, hold 2 (by decide +kernel)]; rfl
                  have e3 : a.eval (.tmp 3) = .int .i64 p := by
                    show a.tmps.getD 3 undef = _
                    rw [Array.getD_eq_getD_getElem?, hold 3 (by decide +kernel)]; rfl
                  have e4 : a.eval (.tmp 4) = .int .i64 q := by
                    show a.tmps.getD 4 undef = _
                    rw [Array.getD_eq_getD_getElem?, hold 4 (by decide +kernel)]; rfl
                  have e5 : a.eval (.tmp 5) = .string x := by
                    show a.tmps.getD 5 undef = _
                    rw [Array.getD_eq_getD_getElem?, hold 5 (by decide +kernel)]; rfl
                  have ec : ∀ v, a.eval (.const v) = v := fun _ => rfl
                  clear hold
                  have hcs := Gr.below57 j hj
                  clear hj
                  rcases hcs with rfl | rfl | rfl | rfl | rfl | rfl | rfl | rfl | rfl | rfl | rfl | rfl | rfl | rfl | rfl | rfl | rfl | rfl | rfl | rfl | rfl | rfl | rfl | rfl | rfl | rfl | rfl | rfl | rfl | rfl | rfl | rfl | rfl | rfl | rfl | rfl | rfl | rfl | rfl | rfl | rfl | rfl | rfl | rfl | rfl | rfl | rfl | rfl | rfl | rfl | rfl | rfl | rfl | rfl | rfl | rfl | rfl
                  · have ho2 := ho; simp only [List.getElem?_toArray, List.getElem?_cons_succ, List.getElem?_cons_zero, Option.some.injEq] at ho2; subst ho2
                    refine grow_call (a := a) (w := w1) 30 #[] ho rfl (by unfold execOp resolve; simp only [List.map_toArray, List.map_nil]; rfl) ((TH.out w1 hb').mono ?_)
                    rintro e a1 ⟨t1, u1, rfl, hk, h, b⟩
                    exact ⟨_, rfl, hk, b⟩
                  · have ho2 := ho; simp only [List.getElem?_toArray, List.getElem?_cons_succ, List.getElem?_cons_zero, Option.some.injEq] at ho2; subst ho2
                    refine grow_val (a := a) (w := w1) (.slice (some ⟨gR, 0, none⟩) 8 8) w1 ho rfl ?_ (Below.refl _ _) rfl
                    unfold execOp
                    simp only [List.map_toArray, List.map_cons, List.map_nil, e1, ec]
                    rfl
                  · have ho2 := ho; simp only [List.getElem?_toArray, List.getElem?_cons_succ, List.getElem?_cons_zero, Option.some.injEq] at ho2; subst ho2
                    refine grow_val (a := a) (w := w1) (.int .i64 (k : Nat)) w1 ho rfl ?_ (Below.refl _ _) rfl
                    unfold execOp
                    simp only [List.map_toArray, List.map_cons, List.map_nil, e2, ec]
                    rfl
                  · have ho2 := ho; simp only [List.getElem?_toArray, List.getElem?_cons_succ, List.getElem?_cons_zero, Option.some.injEq] at ho2; subst ho2
                    have d0 : a.eval (.tmp 66) = .slice (some ⟨gR, 0, none⟩) 8 8 := hdep ⟨1, .data⟩ (by simp) rfl
                    have d1 : a.eval (.tmp 67) = .int .i64 (k : Nat) := hdep ⟨2, .data⟩ (by simp) rfl
                    refine grow_val (a := a) (w := w1) (.pointer (some ⟨gR, k, none⟩)) w1 ho rfl ?_ (Below.refl _ _) rfl
                    unfold execOp
                    simp only [List.map_toArray, List.map_cons, List.map_nil, d0, d1, ec]
                    go_simp
                  · have ho2 := ho; simp only [List.getElem?_toArray, List.getElem?_cons_succ, List.getElem?_cons_zero, Option.some.injEq] at ho2; subst ho2
                    have d0 : a.eval (.tmp 68) = .pointer (some ⟨gR, k, none⟩) := hdep ⟨3, .data⟩ (by simp) rfl
                    have hl : w1.cell? ⟨gR, k, none⟩ = some (.slice ra rn rc) := (hb'.cell (block_lt_of_cell hcell)).trans hcell
                    refine grow_val (a := a) (w := w1) (.slice ra rn rc) w1 ho rfl ?_ (Below.refl _ _) rfl
                    unfold execOp
                    simp only [List.map_toArray, List.map_cons, List.map_nil, d0, ec]
                    go_simp
                  · have ho2 := ho; simp only [List.getElem?_toArray, List.getElem?_cons_succ, List.getElem?_cons_zero, Option.some.injEq] at ho2; subst ho2
                    refine grow_val (a := a) (w := w1) (.int .i64 p) w1 ho rfl ?_ (Below.refl _ _) rfl
                    unfold execOp
                    simp only [List.map_toArray, List.map_cons, List.map_nil, e3, ec]
                    rfl
                  · have ho2 := ho; simp only [List.getElem?_toArray, List.getElem?_cons_succ, List.getElem?_cons_zero, Option.some.injEq] at ho2; subst ho2
                    refine grow_val (a := a) (w := w1) (.int .i64 q) w1 ho rfl ?_ (Below.refl _ _) rfl
                    unfold execOp
                    simp only [List.map_toArray, List.map_cons, List.map_nil, e4, ec]
                    rfl
                  · have ho2 := ho; simp only [List.getElem?_toArray, List.getElem?_cons_succ, List.getElem?_cons_zero, Option.some.injEq] at ho2; subst ho2
                    have d0 : a.eval (.tmp 70) = .int .i64 p := hdep ⟨5, .data⟩ (by simp) rfl
                    have d1 : a.eval (.tmp 71) = .int .i64 q := hdep ⟨6, .data⟩ (by simp) rfl
                    refine grow_val (a := a) (w := w1) (.slice (some ⟨w1.heap.size, 0, none⟩) 2 2) (w1.alloc (.cells #[.int .i64 p, .int .i64 q] 3)) ho rfl ?_ (box_new _ _) (intLit w1 [p, q] #[.int .i64 p, .int .i64 q] 2 w1.heap.size rfl rfl (by simp) rfl)
                    unfold execOp
                    simp only [List.map_toArray, List.map_cons, List.map_nil, d0, d1, ec]
                    generalize a.eval = ev at *
                    go_simp
                  · have ho2 := ho; simp only [List.getElem?_toArray, List.getElem?_cons_succ, List.getElem?_cons_zero, Option.some.injEq] at ho2; subst ho2
                    obtain ⟨v0, d0, f0⟩ : ∃ v0, a.eval (.tmp 65) = v0 ∧ RdK w1 w1.heap.size v0 k3 := ⟨_, rfl, hdep ⟨0, .data⟩ (by simp) rfl⟩
                    have d1 : a.eval (.tmp 69) = .slice ra rn rc := hdep ⟨4, .data⟩ (by simp) rfl
                    obtain ⟨v2, d2, f2⟩ : ∃ v2, a.eval (.tmp 72) = v2 ∧ RdI w1 w1.heap.size v2 [p, q] := ⟨_, rfl, hdep ⟨7, .data⟩ (by simp) rfl⟩
                    refine grow_call (a := a) (w := w1) 3 #[v0, .slice ra rn rc, v2] ho rfl ?_ ((L1.out w1 v0 v2 hb' f0 f2).mono ?_)
                    · unfold execOp resolve
                      simp only [List.map_toArray, List.map_cons, List.map_nil, d0, d1, d2, ec]
                      rfl
                    · rintro e c1 ⟨rfl, h, b⟩
                      exact ⟨_, rfl, rfl, b⟩
                  · have ho2 := ho; simp only [List.getElem?_toArray, List.getElem?_cons_succ, List.getElem?_cons_zero, Option.some.injEq] at ho2; subst ho2
                    have d0 : a.eval (.tmp 73) = .bool true := hdep ⟨8, .data⟩ (by simp) rfl
                    refine grow_val (a := a) (w := w1) (.bool false) w1 ho rfl ?_ (Below.refl _ _) rfl
                    unfold execOp
                    simp only [List.map_toArray, List.map_cons, List.map_nil, d0, ec]
                    first | rfl | go_simp
                  · have ho2 := ho; simp only [List.getElem?_toArray, List.getElem?_cons_succ, List.getElem?_cons_zero, Option.some.injEq] at ho2; subst ho2
                    have d0 : a.eval (.tmp 74) = .bool false := hdep ⟨9, .data⟩ (by simp) rfl
                    refine grow_val (a := a) (w := w1) (.bool false) w1 ho rfl ?_ (Below.refl _ _) rfl
                    unfold execOp
                    simp only [List.map_toArray, List.map_cons, List.map_nil, d0, ec]
                    rfl
                  · have ho2 := ho; simp only [List.getElem?_toArray, List.getElem?_cons_succ, List.getElem?_cons_zero, Option.some.injEq] at ho2; subst ho2
                    have eg : a.tmps.getD 75 undef = .bool false := hdep ⟨10, .guard⟩ (by simp) rfl
                    refine grow_call (a := a) (w := w1) 30 #[] ho (wanted_of rfl (yielded_of rfl eg)) (by unfold execOp resolve; simp only [List.map_toArray, List.map_nil]; rfl) ((TH.out w1 hb').mono ?_)
                    rintro e a1 ⟨t1, u1, rfl, hk, h, b⟩
                    exact ⟨_, rfl, hk, b⟩
                  · have ho2 := ho; simp only [List.getElem?_toArray, List.getElem?_cons_succ, List.getElem?_cons_zero, Option.some.injEq] at ho2; subst ho2
                    have eg : a.tmps.getD 75 undef = .bool false := hdep ⟨10, .guard⟩ (by simp) rfl
                    refine grow_val (a := a) (w := w1) (.int .i64 p) w1 ho (wanted_of rfl (yielded_of rfl eg)) ?_ (Below.refl _ _) rfl
                    unfold execOp
                    simp only [List.map_toArray, List.map_cons, List.map_nil, e3, ec]
                    rfl
                  · have ho2 := ho; simp only [List.getElem?_toArray, List.getElem?_cons_succ, List.getElem?_cons_zero, Option.some.injEq] at ho2; subst ho2
                    have eg : a.tmps.getD 75 undef = .bool false := hdep ⟨10, .guard⟩ (by simp) rfl
                    refine grow_val (a := a) (w := w1) (.int .i64 q) w1 ho (wanted_of rfl (yielded_of rfl eg)) ?_ (Below.refl _ _) rfl
                    unfold execOp
                    simp only [List.map_toArray, List.map_cons, List.map_nil, e4, ec]
                    rfl
                  · have ho2 := ho; simp only [List.getElem?_toArray, List.getElem?_cons_succ, List.getElem?_cons_zero, Option.some.injEq] at ho2; subst ho2
                    have eg : a.tmps.getD 75 undef = .bool false := hdep ⟨10, .guard⟩ (by simp) rfl
                    have d0 : a.eval (.tmp 77) = .int .i64 p := hdep ⟨12, .data⟩ (by simp) rfl
                    have d1 : a.eval (.tmp 78) = .int .i64 q := hdep ⟨13, .data⟩ (by simp) rfl
                    refine grow_val (a := a) (w := w1) (.slice (some ⟨w1.heap.size, 0, none⟩) 2 2) (w1.alloc (.cells #[.int .i64 p, .int .i64 q] 3)) ho (wanted_of rfl (yielded_of rfl eg)) ?_ (box_new _ _) (intLit w1 [p, q] #[.int .i64 p, .int .i64 q] 2 w1.heap.size rfl rfl (by simp) rfl)
                    unfold execOp
                    simp only [List.map_toArray, List.map_cons, List.map_nil, d0, d1, ec]
                    generalize a.eval = ev at *
                    go_simp
                  · have ho2 := ho; simp only [List.getElem?_toArray, List.getElem?_cons_succ, List.getElem?_cons_zero, Option.some.injEq] at ho2; subst ho2
                    have eg : a.tmps.getD 75 undef = .bool false := hdep ⟨10, .guard⟩ (by simp) rfl
                    refine grow_val (a := a) (w := w1) (.slice (some ⟨gR, 0, none⟩) 8 8) w1 ho (wanted_of rfl (yielded_of rfl eg)) ?_ (Below.refl _ _) rfl
                    unfold execOp
                    simp only [List.map_toArray, List.map_cons, List.map_nil, e1, ec]
                    rfl
                  · have ho2 := ho; simp only [List.getElem?_toArray, List.getElem?_cons_succ, List.getElem?_cons_zero, Option.some.injEq] at ho2; subst ho2
                    have eg : a.tmps.getD 75 undef = .bool false := hdep ⟨10, .guard⟩ (by simp) rfl
                    refine grow_val (a := a) (w := w1) (.int .i64 (k : Nat)) w1 ho (wanted_of rfl (yielded_of rfl eg)) ?_ (Below.refl _ _) rfl
                    unfold execOp
                    simp only [List.map_toArray, List.map_cons, List.map_nil, e2, ec]
                    rfl
                  · have ho2 := ho; simp only [List.getElem?_toArray, List.getElem?_cons_succ, List.getElem?_cons_zero, Option.some.injEq] at ho2; subst ho2
                    have eg : a.tmps.getD 75 undef = .bool false := hdep ⟨10, .guard⟩ (by simp) rfl
                    have d0 : a.eval (.tmp 80) = .slice (some ⟨gR, 0, none⟩) 8 8 := hdep ⟨15, .data⟩ (by simp) rfl
                    have d1 : a.eval (.tmp 81) = .int .i64 (k : Nat) := hdep ⟨16, .data⟩ (by simp) rfl
                    refine grow_val (a := a) (w := w1) (.pointer (some ⟨gR, k, none⟩)) w1 ho (wanted_of rfl (yielded_of rfl eg)) ?_ (Below.refl _ _) rfl
                    unfold execOp
                    simp only [List.map_toArray, List.map_cons, List.map_nil, d0, d1, ec]
                    go_simp
                  · have ho2 := ho; simp only [List.getElem?_toArray, List.getElem?_cons_succ, List.getElem?_cons_zero, Option.some.injEq] at ho2; subst ho2
                    have eg : a.tmps.getD 75 undef = .bool false := hdep ⟨10, .guard⟩ (by simp) rfl
                    have d0 : a.eval (.tmp 82) = .pointer (some ⟨gR, k, none⟩) := hdep ⟨17, .data⟩ (by simp) rfl
                    have hl : w1.cell? ⟨gR, k, none⟩ = some (.slice ra rn rc) := (hb'.cell (block_lt_of_cell hcell)).trans hcell
                    refine grow_val (a := a) (w := w1) (.slice ra rn rc) w1 ho (wanted_of rfl (yielded_of rfl eg)) ?_ (Below.refl _ _) rfl
                    unfold execOp
                    simp only [List.map_toArray, List.map_cons, List.map_nil, d0, ec]
                    go_simp
                  · have ho2 := ho; simp only [List.getElem?_toArray, List.getElem?_cons_succ, List.getElem?_cons_zero, Option.some.injEq] at ho2; subst ho2
                    have eg : a.tmps.getD 75 undef = .bool false := hdep ⟨10, .guard⟩ (by simp) rfl
                    refine grow_val (a := a) (w := w1) (.string x) w1 ho (wanted_of rfl (yielded_of rfl eg)) ?_ (Below.refl _ _) rfl
                    unfold execOp
                    simp only [List.map_toArray, List.map_cons, List.map_nil, e5, ec]
                    rfl
                  · have ho2 := ho; simp only [List.getElem?_toArray, List.getElem?_cons_succ, List.getElem?_cons_zero, Option.some.injEq] at ho2; subst ho2
                    have eg : a.tmps.getD 75 undef = .bool false := hdep ⟨10, .guard⟩ (by simp) rfl
                    have d0 : a.eval (.tmp 83) = .slice ra rn rc := hdep ⟨18, .data⟩ (by simp) rfl
                    have d1 : a.eval (.tmp 84) = .string x := hdep ⟨19, .data⟩ (by simp) rfl
                    refine grow_val (a := a) (w := w1) (.agg #[.slice ra rn rc, .string x]) w1 ho (wanted_of rfl (yielded_of rfl eg)) ?_ (Below.refl _ _) rfl
                    unfold execOp
                    simp only [List.map_toArray, List.map_cons, List.map_nil, d0, d1, ec]
                    first | rfl | go_simp
                  · have ho2 := ho; simp only [List.getElem?_toArray, List.getElem?_cons_succ, List.getElem?_cons_zero, Option.some.injEq] at ho2; subst ho2
                    have eg : a.tmps.getD 75 undef = .bool false := hdep ⟨10, .guard⟩ (by simp) rfl
                    obtain ⟨v0, d0, f0⟩ : ∃ v0, a.eval (.tmp 76) = v0 ∧ RdK w1 w1.heap.size v0 k3 := ⟨_, rfl, hdep ⟨11, .data⟩ (by simp) rfl⟩
                    obtain ⟨v1, d1, f1⟩ : ∃ v1, a.eval (.tmp 79) = v1 ∧ RdI w1 w1.heap.size v1 [p, q] := ⟨_, rfl, hdep ⟨14, .data⟩ (by simp) rfl⟩
                    have d2 : a.eval (.tmp 85) = .agg #[.slice ra rn rc, .string x] := hdep ⟨20, .data⟩ (by simp) rfl
                    refine grow_call (a := a) (w := w1) 5 #[v0, v1, .agg #[.slice ra rn rc, .string x]] ho (wanted_of rfl (yielded_of rfl eg)) ?_ ((L2.out w1 v0 v1 hb' f0 f1).mono ?_)
                    · unfold execOp resolve
                      simp only [List.map_toArray, List.map_cons, List.map_nil, d0, d1, d2, ec]
                      rfl
                    · rintro e c1 ⟨rfl, h, b⟩
                      exact ⟨_, rfl, rfl, b⟩
                  · have ho2 := ho; simp only [List.getElem?_toArray, List.getElem?_cons_succ, List.getElem?_cons_zero, Option.some.injEq] at ho2; subst ho2
                    have eg : a.tmps.getD 75 undef = .bool false := hdep ⟨10, .guard⟩ (by simp) rfl
                    have d0 : a.eval (.tmp 86) = .bool true := hdep ⟨21, .data⟩ (by simp) rfl
                    refine grow_val (a := a) (w := w1) (.bool false) w1 ho (wanted_of rfl (yielded_of rfl eg)) ?_ (Below.refl _ _) rfl
                    unfold execOp
                    simp only [List.map_toArray, List.map_cons, List.map_nil, d0, ec]
                    first | rfl | go_simp
                  · have ho2 := ho; simp only [List.getElem?_toArray, List.getElem?_cons_succ, List.getElem?_cons_zero, Option.some.injEq] at ho2; subst ho2
                    have d0 : a.eval (.tmp 75) = .bool false := hdep ⟨10, .data⟩ (by simp) rfl
                    have d1 : a.eval (.tmp 87) = .bool false := hdep ⟨22, .data⟩ (by simp) rfl
                    refine grow_val (a := a) (w := w1) (.bool false) w1 ho rfl ?_ (Below.refl _ _) rfl
                    unfold execOp
                    simp only [List.map_toArray, List.map_cons, List.map_nil, d0, d1, ec]
                    first | rfl | go_simp
                  · have ho2 := ho; simp only [List.getElem?_toArray, List.getElem?_cons_succ, List.getElem?_cons_zero, Option.some.injEq] at ho2; subst ho2
                    have d0 : a.eval (.tmp 88) = .bool false := hdep ⟨23, .data⟩ (by simp) rfl
                    refine grow_val (a := a) (w := w1) (.bool false) w1 ho rfl ?_ (Below.refl _ _) rfl
                    unfold execOp
                    simp only [List.map_toArray, List.map_cons, List.map_nil, d0, ec]
                    rfl
                  · have ho2 := ho; simp only [List.getElem?_toArray, List.getElem?_cons_succ, List.getElem?_cons_zero, Option.some.injEq] at ho2; subst ho2
                    have eg : a.tmps.getD 89 undef = .bool false := hdep ⟨24, .guard⟩ (by simp) rfl
                    refine grow_call (a := a) (w := w1) 30 #[] ho (wanted_of rfl (yielded_of rfl eg)) (by unfold execOp resolve; simp only [List.map_toArray, List.map_nil]; rfl) ((TH.out w1 hb').mono ?_)
                    rintro e a1 ⟨t1, u1, rfl, hk, h, b⟩
                    exact ⟨_, rfl, hk, b⟩
                  · have ho2 := ho; simp only [List.getElem?_toArray, List.getElem?_cons_succ, List.getElem?_cons_zero, Option.some.injEq] at ho2; subst ho2
                    have eg : a.tmps.getD 89 undef = .bool false := hdep ⟨24, .guard⟩ (by simp) rfl
                    refine grow_val (a := a) (w := w1) (.int .i64 q) w1 ho (wanted_of rfl (yielded_of rfl eg)) ?_ (Below.refl _ _) rfl
                    unfold execOp
                    simp only [List.map_toArray, List.map_cons, List.map_nil, e4, ec]
                    rfl
                  · have ho2 := ho; simp only [List.getElem?_toArray, List.getElem?_cons_succ, List.getElem?_cons_zero, Option.some.injEq] at ho2; subst ho2
                    have eg : a.tmps.getD 89 undef = .bool false := hdep ⟨24, .guard⟩ (by simp) rfl
                    have d0 : a.eval (.tmp 91) = .int .i64 q := hdep ⟨26, .data⟩ (by simp) rfl
                    refine grow_val (a := a) (w := w1) (.slice (some ⟨w1.heap.size, 0, none⟩) 1 1) (w1.alloc (.cells #[.int .i64 q] 3)) ho (wanted_of rfl (yielded_of rfl eg)) ?_ (box_new _ _) (intLit w1 [q] #[.int .i64 q] 1 w1.heap.size rfl rfl (by simp) rfl)
                    unfold execOp
                    simp only [List.map_toArray, List.map_cons, List.map_nil, d0, ec]
                    generalize a.eval = ev at *
                    go_simp
                  · have ho2 := ho; simp only [List.getElem?_toArray, List.getElem?_cons_succ, List.getElem?_cons_zero, Option.some.injEq] at ho2; subst ho2
                    have eg : a.tmps.getD 89 undef = .bool false := hdep ⟨24, .guard⟩ (by simp) rfl
                    refine grow_val (a := a) (w := w1) (.slice (some ⟨gR, 0, none⟩) 8 8) w1 ho (wanted_of rfl (yielded_of rfl eg)) ?_ (Below.refl _ _) rfl
                    unfold execOp
                    simp only [List.map_toArray, List.map_cons, List.map_nil, e1, ec]
                    rfl
                  · have ho2 := ho; simp only [List.getElem?_toArray, List.getElem?_cons_succ, List.getElem?_cons_zero, Option.some.injEq] at ho2; subst ho2
                    have eg : a.tmps.getD 89 undef = .bool false := hdep ⟨24, .guard⟩ (by simp) rfl
                    refine grow_val (a := a) (w := w1) (.int .i64 (k : Nat)) w1 ho (wanted_of rfl (yielded_of rfl eg)) ?_ (Below.refl _ _) rfl
                    unfold execOp
                    simp only [List.map_toArray, List.map_cons, List.map_nil, e2, ec]
                    rfl
                  · have ho2 := ho; simp only [List.getElem?_toArray, List.getElem?_cons_succ, List.getElem?_cons_zero, Option.some.injEq] at ho2; subst ho2
                    have eg : a.tmps.getD 89 undef = .bool false := hdep ⟨24, .guard⟩ (by simp) rfl
                    have d0 : a.eval (.tmp 93) = .slice (some ⟨gR, 0, none⟩) 8 8 := hdep ⟨28, .data⟩ (by simp) rfl
                    have d1 : a.eval (.tmp 94) = .int .i64 (k : Nat) := hdep ⟨29, .data⟩ (by simp) rfl
                    refine grow_val (a := a) (w := w1) (.pointer (some ⟨gR, k, none⟩)) w1 ho (wanted_of rfl (yielded_of rfl eg)) ?_ (Below.refl _ _) rfl
                    unfold execOp
                    simp only [List.map_toArray, List.map_cons, List.map_nil, d0, d1, ec]
                    go_simp
                  · have ho2 := ho; simp only [List.getElem?_toArray, List.getElem?_cons_succ, List.getElem?_cons_zero, Option.some.injEq] at ho2; subst ho2
                    have eg : a.tmps.getD 89 undef = .bool false := hdep ⟨24, .guard⟩ (by simp) rfl
                    have d0 : a.eval (.tmp 95) = .pointer (some ⟨gR, k, none⟩) := hdep ⟨30, .data⟩ (by simp) rfl
                    have hl : w1.cell? ⟨gR, k, none⟩ = some (.slice ra rn rc) := (hb'.cell (block_lt_of_cell hcell)).trans hcell
                    refine grow_val (a := a) (w := w1) (.slice ra rn rc) w1 ho (wanted_of rfl (yielded_of rfl eg)) ?_ (Below.refl _ _) rfl
                    unfold execOp
                    simp only [List.map_toArray, List.map_cons, List.map_nil, d0, ec]
                    go_simp
                  · have ho2 := ho; simp only [List.getElem?_toArray, List.getElem?_cons_succ, List.getElem?_cons_zero, Option.some.injEq] at ho2; subst ho2
                    have eg : a.tmps.getD 89 undef = .bool false := hdep ⟨24, .guard⟩ (by simp) rfl
                    refine grow_val (a := a) (w := w1) (.string x) w1 ho (wanted_of rfl (yielded_of rfl eg)) ?_ (Below.refl _ _) rfl
                    unfold execOp
                    simp only [List.map_toArray, List.map_cons, List.map_nil, e5, ec]
                    rfl
                  · have ho2 := ho; simp only [List.getElem?_toArray, List.getElem?_cons_succ, List.getElem?_cons_zero, Option.some.injEq] at ho2; subst ho2
                    have eg : a.tmps.getD 89 undef = .bool false := hdep ⟨24, .guard⟩ (by simp) rfl
                    refine grow_val (a := a) (w := w1) (.string x) w1 ho (wanted_of rfl (yielded_of rfl eg)) ?_ (Below.refl _ _) rfl
                    unfold execOp
                    simp only [List.map_toArray, List.map_cons, List.map_nil, e5, ec]
                    rfl
                  · have ho2 := ho; simp only [List.getElem?_toArray, List.getElem?_cons_succ, List.getElem?_cons_zero, Option.some.injEq] at ho2; subst ho2
                    have eg : a.tmps.getD 89 undef = .bool false := hdep ⟨24, .guard⟩ (by simp) rfl
                    have d0 : a.eval (.tmp 98) = .string x := hdep ⟨33, .data⟩ (by simp) rfl
                    refine grow_val (a := a) (w := w1) (.int .i64 (x.size : Nat)) w1 ho (wanted_of rfl (yielded_of rfl eg)) ?_ (Below.refl _ _) rfl
                    unfold execOp resolve
                    simp only [List.map_toArray, List.map_cons, List.map_nil, d0, ec]
                    first | rfl | go_simp
                  · have ho2 := ho; simp only [List.getElem?_toArray, List.getElem?_cons_succ, List.getElem?_cons_zero, Option.some.injEq] at ho2; subst ho2
                    have eg : a.tmps.getD 89 undef = .bool false := hdep ⟨24, .guard⟩ (by simp) rfl
                    have d0 : a.eval (.tmp 99) = .int .i64 (x.size : Nat) := hdep ⟨34, .data⟩ (by simp) rfl
                    refine grow_val (a := a) (w := w1) (.int .i64 ((x.size : Int) / 2)) w1 ho (wanted_of rfl (yielded_of rfl eg)) ?_ (Below.refl _ _) rfl
                    unfold execOp
                    simp only [List.map_toArray, List.map_cons, List.map_nil, d0, ec]
                    first | (go_simp; done) | (go_simp; rw [hwr]) | (go_simp; simp only [hwr])
                  · have ho2 := ho; simp only [List.getElem?_toArray, List.getElem?_cons_succ, List.getElem?_cons_zero, Option.some.injEq] at ho2; subst ho2
                    have eg : a.tmps.getD 89 undef = .bool false := hdep ⟨24, .guard⟩ (by simp) rfl
                    have d0 : a.eval (.tmp 97) = .string x := hdep ⟨32, .data⟩ (by simp) rfl
                    have d1 : a.eval (.tmp 100) = .int .i64 ((x.size : Int) / 2) := hdep ⟨35, .data⟩ (by simp) rfl
                    refine grow_val (a := a) (w := w1) (.string y) w1 ho (wanted_of rfl (yielded_of rfl eg)) ?_ (Below.refl _ _) rfl
                    unfold execOp
                    simp only [List.map_toArray, List.map_cons, List.map_nil, d0, d1, ec]
                    simp only [Option.map_some, Option.map_none, d0, d1]
                    first | (go_simp; done) | (go_simp; rw [hsl]; rfl) | (go_simp; simp only [hsl]; done) | (rw [Sem.run_bind, hsl]; rfl)
                  · have ho2 := ho; simp only [List.getElem?_toArray, List.getElem?_cons_succ, List.getElem?_cons_zero, Option.some.injEq] at ho2; subst ho2
                    have eg : a.tmps.getD 89 undef = .bool false := hdep ⟨24, .guard⟩ (by simp) rfl
                    have d0 : a.eval (.tmp 96) = .slice ra rn rc := hdep ⟨31, .data⟩ (by simp) rfl
                    have d1 : a.eval (.tmp 101) = .string y := hdep ⟨36, .data⟩ (by simp) rfl
                    refine grow_val (a := a) (w := w1) (.agg #[.slice ra rn rc, .string y]) w1 ho (wanted_of rfl (yielded_of rfl eg)) ?_ (Below.refl _ _) rfl
                    unfold execOp
                    simp only [List.map_toArray, List.map_cons, List.map_nil, d0, d1, ec]
                    first | rfl | go_simp
                  · have ho2 := ho; simp only [List.getElem?_toArray, List.getElem?_cons_succ, List.getElem?_cons_zero, Option.some.injEq] at ho2; subst ho2
                    have eg : a.tmps.getD 89 undef = .bool false := hdep ⟨24, .guard⟩ (by simp) rfl
                    obtain ⟨v0, d0, f0⟩ : ∃ v0, a.eval (.tmp 90) = v0 ∧ RdK w1 w1.heap.size v0 k3 := ⟨_, rfl, hdep ⟨25, .data⟩ (by simp) rfl⟩
                    obtain ⟨v1, d1, f1⟩ : ∃ v1, a.eval (.tmp 92) = v1 ∧ RdI w1 w1.heap.size v1 [q] := ⟨_, rfl, hdep ⟨27, .data⟩ (by simp) rfl⟩
                    have d2 : a.eval (.tmp 102) = .agg #[.slice ra rn rc, .string y] := hdep ⟨37, .data⟩ (by simp) rfl
                    refine grow_call (a := a) (w := w1) 5 #[v0, v1, .agg #[.slice ra rn rc, .string y]] ho (wanted_of rfl (yielded_of rfl eg)) ?_ ((L3.out w1 v0 v1 hb' f0 f1).mono ?_)
                    · unfold execOp resolve
                      simp only [List.map_toArray, List.map_cons, List.map_nil, d0, d1, d2, ec]
                      rfl
                    · rintro e c1 ⟨rfl, h, b⟩
                      exact ⟨_, rfl, rfl, b⟩
                  · have ho2 := ho; simp only [List.getElem?_toArray, List.getElem?_cons_succ, List.getElem?_cons_zero, Option.some.injEq] at ho2; subst ho2
                    have eg : a.tmps.getD 89 undef = .bool false := hdep ⟨24, .guard⟩ (by simp) rfl
                    have d0 : a.eval (.tmp 103) = .bool true := hdep ⟨38, .data⟩ (by simp) rfl
                    refine grow_val (a := a) (w := w1) (.bool false) w1 ho (wanted_of rfl (yielded_of rfl eg)) ?_ (Below.refl _ _) rfl
                    unfold execOp
                    simp only [List.map_toArray, List.map_cons, List.map_nil, d0, ec]
                    first | rfl | go_simp
                  · have ho2 := ho; simp only [List.getElem?_toArray, List.getElem?_cons_succ, List.getElem?_cons_zero, Option.some.injEq] at ho2; subst ho2
                    have d0 : a.eval (.tmp 89) = .bool false := hdep ⟨24, .data⟩ (by simp) rfl
                    have d1 : a.eval (.tmp 104) = .bool false := hdep ⟨39, .data⟩ (by simp) rfl
                    refine grow_val (a := a) (w := w1) (.bool false) w1 ho rfl ?_ (Below.refl _ _) rfl
                    unfold execOp
                    simp only [List.map_toArray, List.map_cons, List.map_nil, d0, d1, ec]
                    first | rfl | go_simp
                  · have ho2 := ho; simp only [List.getElem?_toArray, List.getElem?_cons_succ, List.getElem?_cons_zero, Option.some.injEq] at ho2; subst ho2
                    have d0 : a.eval (.tmp 105) = .bool false := hdep ⟨40, .data⟩ (by simp) rfl
                    refine grow_val (a := a) (w := w1) (.bool false) w1 ho rfl ?_ (Below.refl _ _) rfl
                    unfold execOp
                    simp only [List.map_toArray, List.map_cons, List.map_nil, d0, ec]
                    rfl
                  · have ho2 := ho; simp only [List.getElem?_toArray, List.getElem?_cons_succ, List.getElem?_cons_zero, Option.some.injEq] at ho2; subst ho2
                    have eg : a.tmps.getD 106 undef = .bool false := hdep ⟨41, .guard⟩ (by simp) rfl
                    refine grow_call (a := a) (w := w1) 30 #[] ho (wanted_of rfl (yielded_of rfl eg)) (by unfold execOp resolve; simp only [List.map_toArray, List.map_nil]; rfl) ((TH.out w1 hb').mono ?_)
                    rintro e a1 ⟨t1, u1, rfl, hk, h, b⟩
                    exact ⟨_, rfl, hk, b⟩
                  · have ho2 := ho; simp only [List.getElem?_toArray, List.getElem?_cons_succ, List.getElem?_cons_zero, Option.some.injEq] at ho2; subst ho2
                    have eg : a.tmps.getD 106 undef = .bool false := hdep ⟨41, .guard⟩ (by simp) rfl
                    refine grow_val (a := a) (w := w1) (.int .i64 p) w1 ho (wanted_of rfl (yielded_of rfl eg)) ?_ (Below.refl _ _) rfl
                    unfold execOp
                    simp only [List.map_toArray, List.map_cons, List.map_nil, e3, ec]
                    rfl
                  · have ho2 := ho; simp only [List.getElem?_toArray, List.getElem?_cons_succ, List.getElem?_cons_zero, Option.some.injEq] at ho2; subst ho2
                    have eg : a.tmps.getD 106 undef = .bool false := hdep ⟨41, .guard⟩ (by simp) rfl
                    have d0 : a.eval (.tmp 108) = .int .i64 p := hdep ⟨43, .data⟩ (by simp) rfl
                    refine grow_call (a := a) (w := w1) 31 #[.int .i64 p, .int .i64 3] ho (wanted_of rfl (yielded_of rfl eg)) ?_ ((BRp.out w1).mono ?_)
                    · unfold execOp resolve
                      simp only [List.map_toArray, List.map_cons, List.map_nil, d0, ec]
                      rfl
                    · rintro e wx ⟨rfl, rfl⟩
                      exact ⟨_, rfl, rfl, Below.refl _ _⟩
                  · have ho2 := ho; simp only [List.getElem?_toArray, List.getElem?_cons_succ, List.getElem?_cons_zero, Option.some.injEq] at ho2; subst ho2
                    have eg : a.tmps.getD 106 undef = .bool false := hdep ⟨41, .guard⟩ (by simp) rfl
                    refine grow_val (a := a) (w := w1) (.int .i64 q) w1 ho (wanted_of rfl (yielded_of rfl eg)) ?_ (Below.refl _ _) rfl
                    unfold execOp
                    simp only [List.map_toArray, List.map_cons, List.map_nil, e4, ec]
                    rfl
                  · have ho2 := ho; simp only [List.getElem?_toArray, List.getElem?_cons_succ, List.getElem?_cons_zero, Option.some.injEq] at ho2; subst ho2
                    have eg : a.tmps.getD 106 undef = .bool false := hdep ⟨41, .guard⟩ (by simp) rfl
                    have d0 : a.eval (.tmp 110) = .int .i64 q := hdep ⟨45, .data⟩ (by simp) rfl
                    refine grow_call (a := a) (w := w1) 31 #[.int .i64 q, .int .i64 3] ho (wanted_of rfl (yielded_of rfl eg)) ?_ ((BRq.out w1).mono ?_)
                    · unfold execOp resolve
                      simp only [List.map_toArray, List.map_cons, List.map_nil, d0, ec]
                      rfl
                    · rintro e wx ⟨rfl, rfl⟩
                      exact ⟨_, rfl, rfl, Below.refl _ _⟩
                  · have ho2 := ho; simp only [List.getElem?_toArray, List.getElem?_cons_succ, List.getElem?_cons_zero, Option.some.injEq] at ho2; subst ho2
                    have eg : a.tmps.getD 106 undef = .bool false := hdep ⟨41, .guard⟩ (by simp) rfl
                    have d0 : a.eval (.tmp 109) = .int .i64 (p % 3) := hdep ⟨44, .data⟩ (by simp) rfl
                    have d1 : a.eval (.tmp 111) = .int .i64 (q % 3) := hdep ⟨46, .data⟩ (by simp) rfl
                    refine grow_val (a := a) (w := w1) (.slice (some ⟨w1.heap.size, 0, none⟩) 2 2) (w1.alloc (.cells #[.int .i64 (p % 3), .int .i64 (q % 3)] 3)) ho (wanted_of rfl (yielded_of rfl eg)) ?_ (box_new _ _) (intLit w1 [p % 3, q % 3] #[.int .i64 (p % 3), .int .i64 (q % 3)] 2 w1.heap.size rfl rfl (by simp) rfl)
                    unfold execOp
                    simp only [List.map_toArray, List.map_cons, List.map_nil, d0, d1, ec]
                    generalize a.eval = ev at *
                    go_simp
                  · have ho2 := ho; simp only [List.getElem?_toArray, List.getElem?_cons_succ, List.getElem?_cons_zero, Option.some.injEq] at ho2; subst ho2
                    have eg : a.tmps.getD 106 undef = .bool false := hdep ⟨41, .guard⟩ (by simp) rfl
                    refine grow_val (a := a) (w := w1) (.slice (some ⟨gR, 0, none⟩) 8 8) w1 ho (wanted_of rfl (yielded_of rfl eg)) ?_ (Below.refl _ _) rfl
                    unfold execOp
                    simp only [List.map_toArray, List.map_cons, List.map_nil, e1, ec]
                    rfl
                  · have ho2 := ho; simp only [List.getElem?_toArray, List.getElem?_cons_succ, List.getElem?_cons_zero, Option.some.injEq] at ho2; subst ho2
                    have eg : a.tmps.getD 106 undef = .bool false := hdep ⟨41, .guard⟩ (by simp) rfl
                    refine grow_val (a := a) (w := w1) (.int .i64 (k : Nat)) w1 ho (wanted_of rfl (yielded_of rfl eg)) ?_ (Below.refl _ _) rfl
                    unfold execOp
                    simp only [List.map_toArray, List.map_cons, List.map_nil, e2, ec]
                    rfl
                  · have ho2 := ho; simp only [List.getElem?_toArray, List.getElem?_cons_succ, List.getElem?_cons_zero, Option.some.injEq] at ho2; subst ho2
                    have eg : a.tmps.getD 106 undef = .bool false := hdep ⟨41, .guard⟩ (by simp) rfl
                    have d0 : a.eval (.tmp 113) = .slice (some ⟨gR, 0, none⟩) 8 8 := hdep ⟨48, .data⟩ (by simp) rfl
                    have d1 : a.eval (.tmp 114) = .int .i64 (k : Nat) := hdep ⟨49, .data⟩ (by simp) rfl
                    refine grow_val (a := a) (w := w1) (.pointer (some ⟨gR, k, none⟩)) w1 ho (wanted_of rfl (yielded_of rfl eg)) ?_ (Below.refl _ _) rfl
                    unfold execOp
                    simp only [List.map_toArray, List.map_cons, List.map_nil, d0, d1, ec]
                    go_simp
                  · have ho2 := ho; simp only [List.getElem?_toArray, List.getElem?_cons_succ, List.getElem?_cons_zero, Option.some.injEq] at ho2; subst ho2
                    have eg : a.tmps.getD 106 undef = .bool false := hdep ⟨41, .guard⟩ (by simp) rfl
                    have d0 : a.eval (.tmp 115) = .pointer (some ⟨gR, k, none⟩) := hdep ⟨50, .data⟩ (by simp) rfl
                    have hl : w1.cell? ⟨gR, k, none⟩ = some (.slice ra rn rc) := (hb'.cell (block_lt_of_cell hcell)).trans hcell
                    refine grow_val (a := a) (w := w1) (.slice ra rn rc) w1 ho (wanted_of rfl (yielded_of rfl eg)) ?_ (Below.refl _ _) rfl
                    unfold execOp
                    simp only [List.map_toArray, List.map_cons, List.map_nil, d0, ec]
                    go_simp
                  · have ho2 := ho; simp only [List.getElem?_toArray, List.getElem?_cons_succ, List.getElem?_cons_zero, Option.some.injEq] at ho2; subst ho2
                    have eg : a.tmps.getD 106 undef = .bool false := hdep ⟨41, .guard⟩ (by simp) rfl
                    refine grow_val (a := a) (w := w1) (.string x) w1 ho (wanted_of rfl (yielded_of rfl eg)) ?_ (Below.refl _ _) rfl
                    unfold execOp
                    simp only [List.map_toArray, List.map_cons, List.map_nil, e5, ec]
                    rfl
                  · have ho2 := ho; simp only [List.getElem?_toArray, List.getElem?_cons_succ, List.getElem?_cons_zero, Option.some.injEq] at ho2; subst ho2
                    have eg : a.tmps.getD 106 undef = .bool false := hdep ⟨41, .guard⟩ (by simp) rfl
                    have d0 : a.eval (.tmp 116) = .slice ra rn rc := hdep ⟨51, .data⟩ (by simp) rfl
                    have d1 : a.eval (.tmp 117) = .string x := hdep ⟨52, .data⟩ (by simp) rfl
                    refine grow_val (a := a) (w := w1) (.agg #[.slice ra rn rc, .string x]) w1 ho (wanted_of rfl (yielded_of rfl eg)) ?_ (Below.refl _ _) rfl
                    unfold execOp
                    simp only [List.map_toArray, List.map_cons, List.map_nil, d0, d1, ec]
                    first | rfl | go_simp
                  · have ho2 := ho; simp only [List.getElem?_toArray, List.getElem?_cons_succ, List.getElem?_cons_zero, Option.some.injEq] at ho2; subst ho2
                    have eg : a.tmps.getD 106 undef = .bool false := hdep ⟨41, .guard⟩ (by simp) rfl
                    obtain ⟨v0, d0, f0⟩ : ∃ v0, a.eval (.tmp 107) = v0 ∧ RdK w1 w1.heap.size v0 k3 := ⟨_, rfl, hdep ⟨42, .data⟩ (by simp) rfl⟩
                    obtain ⟨v1, d1, f1⟩ : ∃ v1, a.eval (.tmp 112) = v1 ∧ RdI w1 w1.heap.size v1 [p % 3, q % 3] := ⟨_, rfl, hdep ⟨47, .data⟩ (by simp) rfl⟩
                    have d2 : a.eval (.tmp 118) = .agg #[.slice ra rn rc, .string x] := hdep ⟨53, .data⟩ (by simp) rfl
                    refine grow_call (a := a) (w := w1) 5 #[v0, v1, .agg #[.slice ra rn rc, .string x]] ho (wanted_of rfl (yielded_of rfl eg)) ?_ ((L4.out w1 v0 v1 hb' f0 f1).mono ?_)
                    · unfold execOp resolve
                      simp only [List.map_toArray, List.map_cons, List.map_nil, d0, d1, d2, ec]
                      rfl
                    · rintro e c1 ⟨rfl, h, b⟩
                      exact ⟨_, rfl, rfl, b⟩
                  · have ho2 := ho; simp only [List.getElem?_toArray, List.getElem?_cons_succ, List.getElem?_cons_zero, Option.some.injEq] at ho2; subst ho2
                    have eg : a.tmps.getD 106 undef = .bool false := hdep ⟨41, .guard⟩ (by simp) rfl
                    have d0 : a.eval (.tmp 119) = .bool true := hdep ⟨54, .data⟩ (by simp) rfl
                    refine grow_val (a := a) (w := w1) (.bool false) w1 ho (wanted_of rfl (yielded_of rfl eg)) ?_ (Below.refl _ _) rfl
                    unfold execOp
                    simp only [List.map_toArray, List.map_cons, List.map_nil, d0, ec]
                    first | rfl | go_simp
                  · have ho2 := ho; simp only [List.getElem?_toArray, List.getElem?_cons_succ, List.getElem?_cons_zero, Option.some.injEq] at ho2; subst ho2
                    have d0 : a.eval (.tmp 106) = .bool false := hdep ⟨41, .data⟩ (by simp) rfl
                    have d1 : a.eval (.tmp 120) = .bool false := hdep ⟨55, .data⟩ (by simp) rfl
                    refine grow_val (a := a) (w := w1) (.bool false) w1 ho rfl ?_ (Below.refl _ _) rfl
                    unfold execOp
                    simp only [List.map_toArray, List.map_cons, List.map_nil, d0, d1, ec]
                    first | rfl | go_simp
                · intro a w1 hb hj
                  exact ⟨hj 56 (by decide), up (Below.refl _ _).drew hb⟩
                · rintro ts2 w2 ⟨h121, hb2⟩
                  have HK5 := Lib.hid (HK4.out.later hb2)
                  simp only [fill, List.setIfInBounds_toArray, List.set_cons_succ, List.set_cons_zero]
                  rw [h121]
                  go_wp2_with fail
                  go_roundw
                  case rel => exact ⟨q + 1, by omega, by omega, by go_num, HK5⟩
                  case measure => simp [intOf]; omega
            · obtain rfl : q = 4 := by omega
              go_wp2_with fail
              go_roundw
              case rel => exact ⟨p + 1, by omega, by omega, by go_num, HK3⟩
              case measure => simp [intOf]; omega
        · obtain rfl : p = 5 := by omega
          clear HK1 HKW HB HT hp0 hp1 hpl
          go_wp2_with fail
          go_loopw [7] (fun i wr => ∃ k2 : Nat, k2 ≤ 8 ∧ i = .int .i64 (k2 : Nat) ∧ Hid (KW gR wb wr)) (fun i _ => 8 - (intOf i).toNat)
          case atStart => exact ⟨0, by omega, by rfl, HK2⟩
          case round =>
            obtain ⟨k2, hk2, rfl, HK3⟩ := hrel
            clear HK2
            by_cases hl2 : k2 < 8
            · have hl3 : (k2 : Int) < 8 := by omega
              obtain ⟨ra, rn, rc, hcell, hrow⟩ := HK3.out.r k hlt
              obtain ⟨sa, sn, sc, hcel2, hrow2⟩ := HK3.out.r k2 hl2
              have HROW := Lib.hid hrow
              have HROW2 := Lib.hid hrow2
              clear hrow hrow2
              have TH := Lib.hid (fun (w1 : World) (hb : Below wr.heap.size wr w1) => three_at wr w1 hb)
              have SK := Lib.hid (fun (w1 : World) (hb : Below wr.heap.size wr w1) => And.intro hb (And.intro ((hb.cell (block_lt_of_cell hcell)).trans hcell) ((hb.cell (block_lt_of_cell hcel2)).trans hcel2)))
              have LC := Lib.hid (fun (w1 : World) (hb : Below wr.heap.size wr w1) => (rowCompares _ _ _ _ w1 (HROW.out.later hb) (HROW2.out.later hb) (HK3.out.t.later hb)).mono fun (e : Ending) w2 h => (⟨h.1, up hb h.2⟩ : e = _ ∧ Below wr.heap.size wr w2))
              have LD := Lib.hid (fun (w1 : World) (kv pv : Value) (hb : Below wr.heap.size wr w1) (hk : RdK w1 w1.heap.size kv k3) (hp : RdI w1 w1.heap.size pv [1, 0]) => (rowKeyed kv pv _ _ k3 [1, 0] _ _ w1 hk ⟨hp, by decide⟩ (HROW.out.later hb) (HROW2.out.later hb) (HK3.out.t.later hb)).mono fun (e : Ending) w2 h => (⟨h.1, up hb h.2⟩ : e = _ ∧ Below wr.heap.size wr w2))
              go_wp2_with fail
              refine region_merge [128, 129, 130, 131, 132, 133, 134, 135, 136, 137, 138, 139, 140, 141, 142, 143, 144, 145, 146, 147, 148, 149, 150, 151, 152] (fun ts2 w2 => ts2.getD 152 undef = .bool false ∧ Below wr.heap.size wr w2) ?_ ?_
              · skip
                go_region_held3 (fun wS => Below wr.heap.size wr wS ∧ (wS.cell? ⟨gR, k, none⟩ = some (.slice ra rn rc) ∧ wS.cell? ⟨gR, k2, none⟩ = some (.slice sa sn sc)))
                  (first | exact SK.out _ HC2.out | exact SK.out _ (up_box HA2.out _) | exact SK.out _ HA2.out | exact SK.out _ (up_box HC1.out _) | exact SK.out _ HC1.out | exact SK.out _ (Below.refl _ _).drew | exact SK.out _ (Below.refl _ _) | fail "keep")
                  ((first
                    | (go_at_call 7; (with_reducible refine (LD.out _ _ _ HA2.out HK2.out HI2.out).mono ?_); rintro e c2 ⟨rfl, h⟩; have HC2 := Lib.hid h; clear h)
                    | (go_at_call 7; (with_reducible refine (LD.out (a2.alloc (.cells #[.int .i64 1, .int .i64 0] 3)) _ _ (up_box HA2.out _) (HK2.out.later (box_new _ _)) (intLit a2 [1, 0] #[.int .i64 1, .int .i64 0] 2 a2.heap.size rfl rfl (by decide) rfl)).mono ?_); rintro e c2 ⟨rfl, h⟩; have HC2 := Lib.hid h; clear h)
                    | (go_at_call 30; (with_reducible refine (TH.out (c1.alloc (.cells #[.int .i64 1, .int .i64 0] 3)) (up_box HC1.out _)).mono ?_); rintro e a2 ⟨t2, u2, rfl, hk, h, b⟩; have HA2 := Lib.hid h; have HK2 := Lib.hid hk; have HI2 := Lib.hid ((intLit c1 [1, 0] #[.int .i64 1, .int .i64 0] 2 c1.heap.size rfl rfl (by decide) rfl).later b); clear h b hk)
                    | (go_at_call 30; (with_reducible refine (TH.out c1 HC1.out).mono ?_); rintro e a2 ⟨t2, u2, rfl, hk, h, b⟩; have HA2 := Lib.hid h; have HK2 := Lib.hid hk; clear h b hk)
                    | (go_at_call 4; (with_reducible refine (LC.out _ (Below.refl _ _).drew).mono ?_); rintro e c1 ⟨rfl, h⟩; have HC1 := Lib.hid h; clear h)
                  ))
                all_goals exact ⟨rfl, rfl, rfl, by kernel_rfl, rfl, HC2.out⟩
              · rintro ts2 w2 ⟨h152, hb2⟩
                have HK5 := Lib.hid (HK3.out.later hb2)
                simp only [fill, List.setIfInBounds_toArray, List.set_cons_succ, List.set_cons_zero]
                rw [h152]
                go_wp2_with fail
                go_roundw
                case rel => exact ⟨k2 + 1, by omega, by go_num, HK5⟩
                case measure => simp [intOf]; omega
            · obtain rfl : k2 = 8 := by omega
              go_wp2_with fail
              go_roundw
              case rel => exact ⟨k + 1, by omega, by go_num, HK3⟩
              case measure => simp [intOf]; omega
    · obtain rfl : k = 8 := by omega
      have HU0 := Lib.hid (up HB.out HK1.out.b)
      have HK2 := Lib.hid (HK1.out.later (box_new wr (.cells #[.int .i64 0, .string ⟨#[]⟩, .int .i64 9, .bool false, .bool false, .int .i64 0, .string ⟨#[]⟩] 56)))
      have HO2 := Lib.hid (colLit wr [⟨0, ⟨#[]⟩, 9, false, Cl.empty⟩] #[.int .i64 0, .string ⟨#[]⟩, .int .i64 9, .bool false, .bool false, .int .i64 0, .string ⟨#[]⟩] 1 wr.heap.size rfl rfl (by decide) rfl)
      clear HKW HK1 HT
      go_wp2_with fail
      generalize wr.alloc (.cells #[.int .i64 0, .string ⟨#[]⟩, .int .i64 9, .bool false, .bool false, .int .i64 0, .string ⟨#[]⟩] 56) = w1 at *
      ((with_reducible refine (works _ HK2.out.t).mono ?_); rintro e w2 ⟨rfl, b2⟩)
      have HK3 := Lib.hid (HK2.out.later b2)
      have HO3 := Lib.hid (HO2.out.later b2)
      clear b2 HK2 HO2
      go_wp2_with fail
      ((with_reducible refine (rowKeys _ _ _ _ [0] [⟨false, 0, ⟨#[]⟩⟩] ⟨#[]⟩ _ ((HO3.out.later (box_new w2 (.cells #[.int .i64 0] 3))).later (box_new _ (.cells #[.bool false, .int .i64 0, .string ⟨#[]⟩] 34))) ⟨(intLit w2 [0] #[.int .i64 0] 1 w2.heap.size rfl rfl (by decide) rfl).later (box_new _ (.cells #[.bool false, .int .i64 0, .string ⟨#[]⟩] 34)), by decide⟩ ⟨rowLit (w2.alloc (.cells #[.int .i64 0] 3)) [⟨false, 0, ⟨#[]⟩⟩] #[.bool false, .int .i64 0, .string ⟨#[]⟩] 1 (w2.heap.size + 1) rfl rfl (by decide) (by simp), few_ok (few_of (by decide) (by decide +kernel))⟩ (by decide) ((HK3.out.t.later (box_new w2 (.cells #[.int .i64 0] 3))).later (box_new _ (.cells #[.bool false, .int .i64 0, .string ⟨#[]⟩] 34)))).mono ?_); rintro e w3 ⟨rfl, b3⟩)
      have HK4 := Lib.hid (HK3.out.later (up (up (box_new w2 (.cells #[.int .i64 0] 3)) (box_new _ (.cells #[.bool false, .int .i64 0, .string ⟨#[]⟩] 34))) b3))
      have HO4 := Lib.hid (HO3.out.later (up (up (box_new w2 (.cells #[.int .i64 0] 3)) (box_new _ (.cells #[.bool false, .int .i64 0, .string ⟨#[]⟩] 34))) b3))
      clear b3 HK3 HO3
      go_wp2_with fail
      ((with_reducible refine (rowKeys _ _ _ _ [] [⟨false, 0, ⟨#[]⟩⟩] ⟨#[97]⟩ _ (HO4.out.later (box_new w3 (.cells #[.bool false, .int .i64 0, .string ⟨#[]⟩] 34))) (intIn_nil _) ⟨rowLit w3 [⟨false, 0, ⟨#[]⟩⟩] #[.bool false, .int .i64 0, .string ⟨#[]⟩] 1 w3.heap.size rfl rfl (by decide) rfl, few_ok (few_of (by decide) (by decide +kernel))⟩ (by decide) (HK4.out.t.later (box_new w3 (.cells #[.bool false, .int .i64 0, .string ⟨#[]⟩] 34)))).mono ?_); rintro e w4 ⟨rfl, b4⟩)
      have HK5 := Lib.hid (HK4.out.later (up (box_new w3 (.cells #[.bool false, .int .i64 0, .string ⟨#[]⟩] 34)) b4))
      clear b4 HK4 HO4
      go_wp2_with fail
      ((with_reducible refine (rowChecks _ _ _ [] [] [] w4 (rdK_nil w4) (rowIn_nil w4) (intIn_nil w4) HK5.out.t).mono ?_); rintro e w5 ⟨rfl, b5⟩)
      have HK6 := Lib.hid (HK5.out.later b5)
      clear b5 HK5
      go_wp2_with fail
      ((with_reducible refine (rowKeys _ _ _ [] [] [] ⟨#[]⟩ w5 (rdK_nil w5) (intIn_nil w5) (rowIn_nil w5) (by decide) HK6.out.t).mono ?_); rintro e w6 ⟨rfl, b6⟩)
      have HU6 := Lib.hid (up (up HB.out HK6.out.b) b6)
      clear b6
      go_wp2_with fail
      go_ret
      exact ⟨rfl, HU6.out⟩
end Go.Proofs.YtfplogjdcndohaaGreatDoor
