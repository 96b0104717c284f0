/- The program's kinds, by their functions; Check of the program. -/
import Derived.Test.YtanjdjiigfdnmaaGreatDoorClRun
import Derived.Test.YtanjdjiigfdnmaaGreatDoorClRep
import Derived.Test.YtanjdjiigfdnmaaGreatDoorClTx
import Derived.Deep.RegionHeld3
import Derived.Laws.EntriesVeiled
namespace Go.Proofs.YtanjdjiigfdnmaaGreatDoor
open Go.RowKit
set_option linter.unusedVariables false
set_option maxRecDepth 100000

def kinds : Value := .agg #[.nilFunc, .nilFunc, .nilFunc, .nilFunc, .nilFunc, .func (Fn.func 108) #[] #[], .func (Fn.func 109) #[] #[], .func (Fn.func 110) #[] #[], .func (Fn.func 111) #[] #[], .func (Fn.func 112) #[] #[], .func (Fn.func 113) #[] #[], .func (Fn.func 114) #[] #[], .func (Fn.func 115) #[] #[], .func (Fn.func 116) #[] #[], .func (Fn.func 117) #[] #[], .func (Fn.func 118) #[] #[], .func (Fn.func 114) #[] #[], .func (Fn.func 115) #[] #[], .func (Fn.func 116) #[] #[], .func (Fn.func 117) #[] #[], .func (Fn.func 119) #[] #[], .func (Fn.func 120) #[] #[], .func (Fn.func 121) #[] #[], .func (Fn.func 122) #[] #[], .func (Fn.func 123) #[] #[], .func (Fn.func 124) #[] #[], .func (Fn.func 125) #[] #[], .func (Fn.func 126) #[] #[], .func (Fn.func 122) #[] #[], .func (Fn.func 123) #[] #[]]

def kv1 : Value := .agg #[.func (Fn.func 108) #[] #[], .func (Fn.func 109) #[] #[], .func (Fn.func 110) #[] #[], .func (Fn.func 111) #[] #[], .func (Fn.func 112) #[] #[]]
def kv2 : Value := .agg #[.func (Fn.func 113) #[] #[], .func (Fn.func 114) #[] #[], .func (Fn.func 115) #[] #[], .func (Fn.func 116) #[] #[], .func (Fn.func 117) #[] #[]]
def kv3 : Value := .agg #[.func (Fn.func 118) #[] #[], .func (Fn.func 114) #[] #[], .func (Fn.func 115) #[] #[], .func (Fn.func 116) #[] #[], .func (Fn.func 117) #[] #[]]
def kv4 : Value := .agg #[.func (Fn.func 119) #[] #[], .func (Fn.func 120) #[] #[], .func (Fn.func 121) #[] #[], .func (Fn.func 122) #[] #[], .func (Fn.func 123) #[] #[]]
def kv5 : Value := .agg #[.func (Fn.func 124) #[] #[], .func (Fn.func 125) #[] #[], .func (Fn.func 126) #[] #[], .func (Fn.func 122) #[] #[], .func (Fn.func 123) #[] #[]]
/-- A variable that holds a type. -/
def TV (w : World) (g : Nat) (u : Bool) (k : Int) : Prop := Blk w g 32 [.int .i64 k, .bool u]
theorem TV.new (w : World) (u : Bool) (k : Int) : TV (w.alloc (.cells #[.int .i64 k, .bool u] 32)) w.heap.size u k := Blk.new w _ _
theorem TV.lie {w : World} {g : Nat} {u : Bool} {k : Int} (h : TV w g u k) : w.cell? ⟨g, 0, none⟩ = some (.int .i64 k) ∧ w.cell? ⟨g, 1, none⟩ = some (.bool u) :=
  ⟨by have := h.cell 0; simpa using this, by have := h.cell 1; simpa using this⟩
theorem TV.later {w w' : World} {g : Nat} {u : Bool} {k : Int} (h : TV w g u k) (hb : Below w.heap.size w w') : TV w' g u k := Blk.later h hb
/-- A type and a cell, each in a variable of its own, behind all that was there. -/
structure BX (w0 : World) (u : Bool) (k : Int) (c : Cl.C) (w : World) : Prop where
  t : TV w w0.heap.size u k
  c : CV w (w0.heap.size + 1) c
  b : Below w0.heap.size w0 w
theorem BX.later {w0 w w' : World} {u : Bool} {k : Int} {c : Cl.C} (h : BX w0 u k c w) (hb : Below w.heap.size w w') : BX w0 u k c w' := ⟨h.t.later hb, h.c.later hb, up h.b hb⟩
theorem BX.drew {w0 w : World} {u : Bool} {k : Int} {c : Cl.C} (h : BX w0 u k c w) : BX w0 u k c w.drew := ⟨h.t, h.c, h.b.drew⟩
theorem BX.start (w : World) (u : Bool) (k : Int) (c : Cl.C) : BX w u k c ((w.alloc (.cells #[.int .i64 k, .bool u] 32)).alloc (.cells #[.bool c.u, .int .i64 c.n, .string c.s] 34)) := by
  have h := CV.new (w.alloc (.cells #[.int .i64 k, .bool u] 32)) c.u c.n c.s
  rw [show (w.alloc (.cells #[.int .i64 k, .bool u] 32)).heap.size = w.heap.size + 1 by simp] at h
  exact ⟨(TV.new w u k).later (box_new _ _), h, (box_new w _).alloc (by simp) _⟩
theorem TA.drew {w : World} (h : TA w) : TA w.drew := h.later (Below.refl _ _).drew

theorem kindOf1 (u : Bool) (w : World) : Calls Tryz.prog 90 #[tv u 1] w fun e w' => e = .returned kv1 ∧ Below w.heap.size w w' := by
  have i0 : ∀ w, (Instr.index 141 kinds (.int .i64 1)).run Tryz.prog w = .ok kv1 w := fun _ => by kernel_rfl
  unfold tv
  unfold kinds at i0
  unfold kv1 at i0 ⊢
  go_enter Tryz.func90, Tryz.ntmps90
  go_wp2_with fail
  have := heap_alloc_new (w.alloc (.cells #[.int .i64 1, .bool u] 32)) (.cells #[.func (Fn.func 108) #[] #[], .func (Fn.func 109) #[] #[], .func (Fn.func 110) #[] #[], .func (Fn.func 111) #[] #[], .func (Fn.func 112) #[] #[]] 115)
  rw [show (w.alloc (.cells #[.int .i64 1, .bool u] 32)).heap.size = w.heap.size + 1 by simp] at this
  refine bodyPost_ret (v := .agg #[.func (Fn.func 108) #[] #[], .func (Fn.func 109) #[] #[], .func (Fn.func 110) #[] #[], .func (Fn.func 111) #[] #[], .func (Fn.func 112) #[] #[]]) ?_ rfl ⟨rfl, (box_new w _).alloc (by simp) _⟩
  exact results_cell_row rfl _ _ (w.heap.size + 1) 115 _ _ _ rfl this Tryz.underlying115 rfl (by kernel_rfl)
theorem kindOf2 (u : Bool) (w : World) : Calls Tryz.prog 90 #[tv u 2] w fun e w' => e = .returned kv2 ∧ Below w.heap.size w w' := by
  have i0 : ∀ w, (Instr.index 141 kinds (.int .i64 2)).run Tryz.prog w = .ok kv2 w := fun _ => by kernel_rfl
  unfold tv
  unfold kinds at i0
  unfold kv2 at i0 ⊢
  go_enter Tryz.func90, Tryz.ntmps90
  go_wp2_with fail
  have := heap_alloc_new (w.alloc (.cells #[.int .i64 2, .bool u] 32)) (.cells #[.func (Fn.func 113) #[] #[], .func (Fn.func 114) #[] #[], .func (Fn.func 115) #[] #[], .func (Fn.func 116) #[] #[], .func (Fn.func 117) #[] #[]] 115)
  rw [show (w.alloc (.cells #[.int .i64 2, .bool u] 32)).heap.size = w.heap.size + 1 by simp] at this
  refine bodyPost_ret (v := .agg #[.func (Fn.func 113) #[] #[], .func (Fn.func 114) #[] #[], .func (Fn.func 115) #[] #[], .func (Fn.func 116) #[] #[], .func (Fn.func 117) #[] #[]]) ?_ rfl ⟨rfl, (box_new w _).alloc (by simp) _⟩
  exact results_cell_row rfl _ _ (w.heap.size + 1) 115 _ _ _ rfl this Tryz.underlying115 rfl (by kernel_rfl)
theorem kindOf3 (u : Bool) (w : World) : Calls Tryz.prog 90 #[tv u 3] w fun e w' => e = .returned kv3 ∧ Below w.heap.size w w' := by
  have i0 : ∀ w, (Instr.index 141 kinds (.int .i64 3)).run Tryz.prog w = .ok kv3 w := fun _ => by kernel_rfl
  unfold tv
  unfold kinds at i0
  unfold kv3 at i0 ⊢
  go_enter Tryz.func90, Tryz.ntmps90
  go_wp2_with fail
  have := heap_alloc_new (w.alloc (.cells #[.int .i64 3, .bool u] 32)) (.cells #[.func (Fn.func 118) #[] #[], .func (Fn.func 114) #[] #[], .func (Fn.func 115) #[] #[], .func (Fn.func 116) #[] #[], .func (Fn.func 117) #[] #[]] 115)
  rw [show (w.alloc (.cells #[.int .i64 3, .bool u] 32)).heap.size = w.heap.size + 1 by simp] at this
  refine bodyPost_ret (v := .agg #[.func (Fn.func 118) #[] #[], .func (Fn.func 114) #[] #[], .func (Fn.func 115) #[] #[], .func (Fn.func 116) #[] #[], .func (Fn.func 117) #[] #[]]) ?_ rfl ⟨rfl, (box_new w _).alloc (by simp) _⟩
  exact results_cell_row rfl _ _ (w.heap.size + 1) 115 _ _ _ rfl this Tryz.underlying115 rfl (by kernel_rfl)
theorem kindOf4 (u : Bool) (w : World) : Calls Tryz.prog 90 #[tv u 4] w fun e w' => e = .returned kv4 ∧ Below w.heap.size w w' := by
  have i0 : ∀ w, (Instr.index 141 kinds (.int .i64 4)).run Tryz.prog w = .ok kv4 w := fun _ => by kernel_rfl
  unfold tv
  unfold kinds at i0
  unfold kv4 at i0 ⊢
  go_enter Tryz.func90, Tryz.ntmps90
  go_wp2_with fail
  have := heap_alloc_new (w.alloc (.cells #[.int .i64 4, .bool u] 32)) (.cells #[.func (Fn.func 119) #[] #[], .func (Fn.func 120) #[] #[], .func (Fn.func 121) #[] #[], .func (Fn.func 122) #[] #[], .func (Fn.func 123) #[] #[]] 115)
  rw [show (w.alloc (.cells #[.int .i64 4, .bool u] 32)).heap.size = w.heap.size + 1 by simp] at this
  refine bodyPost_ret (v := .agg #[.func (Fn.func 119) #[] #[], .func (Fn.func 120) #[] #[], .func (Fn.func 121) #[] #[], .func (Fn.func 122) #[] #[], .func (Fn.func 123) #[] #[]]) ?_ rfl ⟨rfl, (box_new w _).alloc (by simp) _⟩
  exact results_cell_row rfl _ _ (w.heap.size + 1) 115 _ _ _ rfl this Tryz.underlying115 rfl (by kernel_rfl)
theorem kindOf5 (u : Bool) (w : World) : Calls Tryz.prog 90 #[tv u 5] w fun e w' => e = .returned kv5 ∧ Below w.heap.size w w' := by
  have i0 : ∀ w, (Instr.index 141 kinds (.int .i64 5)).run Tryz.prog w = .ok kv5 w := fun _ => by kernel_rfl
  unfold tv
  unfold kinds at i0
  unfold kv5 at i0 ⊢
  go_enter Tryz.func90, Tryz.ntmps90
  go_wp2_with fail
  have := heap_alloc_new (w.alloc (.cells #[.int .i64 5, .bool u] 32)) (.cells #[.func (Fn.func 124) #[] #[], .func (Fn.func 125) #[] #[], .func (Fn.func 126) #[] #[], .func (Fn.func 122) #[] #[], .func (Fn.func 123) #[] #[]] 115)
  rw [show (w.alloc (.cells #[.int .i64 5, .bool u] 32)).heap.size = w.heap.size + 1 by simp] at this
  refine bodyPost_ret (v := .agg #[.func (Fn.func 124) #[] #[], .func (Fn.func 125) #[] #[], .func (Fn.func 126) #[] #[], .func (Fn.func 122) #[] #[], .func (Fn.func 123) #[] #[]]) ?_ rfl ⟨rfl, (box_new w _).alloc (by simp) _⟩
  exact results_cell_row rfl _ _ (w.heap.size + 1) 115 _ _ _ rfl this Tryz.underlying115 rfl (by kernel_rfl)
theorem cunq_err (l : List Nat) (t : List Nat) (n e : Nat) (h : Utf.unq l = (t, n, e)) (he : e ≠ 0) : t = [] ∧ n = 0 := by
  unfold Utf.unq at h
  repeat' split at h
  all_goals simp only [Prod.mk.injEq] at h
  · exact ⟨h.1.symm, h.2.1.symm⟩
  · exact ⟨h.1.symm, h.2.1.symm⟩
  · exact ⟨h.1.symm, h.2.1.symm⟩
  · omega
theorem cunq_good (l : List Nat) (hl : ∀ x ∈ l, x < 256) (t : List Nat) (n : Nat) (h : Utf.unq l = (t, n, 0)) :
    (∃ rs, (∀ r ∈ rs, Utf.isr r) ∧ t = Utf.encs rs) ∧ (Utf.tidy t).length ≤ n ∧ 2 ≤ n ∧ n ≤ l.length := by
  unfold Utf.unq at h
  by_cases h0 : l = []
  · rw [if_pos h0] at h; simp at h
  · rw [if_neg h0] at h
    by_cases h1 : l.getD 0 0 ≠ 34
    · rw [if_pos h1] at h; simp at h
    · rw [if_neg h1] at h
      by_cases h2 : (Utf.ub (l.drop 1)).2.2 ≠ 0
      · rw [if_pos h2] at h
        simp only [Prod.mk.injEq] at h
        exact absurd h.2.2 h2
      · rw [if_neg h2] at h
        simp only [Prod.mk.injEq] at h
        obtain ⟨e1, e2, _⟩ := h
        obtain ⟨i1, i2, i3⟩ := Utf.ub_good (l.drop 1).length (l.drop 1) (Nat.le_refl _) (Utf.drop_byte hl 1) (by omega)
        rw [List.length_drop] at i3
        rw [e1] at i1 i2
        have hp : 0 < l.length := by cases l with | nil => exact absurd rfl h0 | cons => simp
        refine ⟨i1, ?_, by omega, by omega⟩
        unfold Utf.tidy
        simp; omega

/-- What a guess is of a kind. -/
def Gs (k : Int) (s : ByteArray) (c : Cl.C) : Prop := Cl.I64 c.n ∧ c.s.size ≤ 100000 ∧ ∀ d, Cl.isK k d = true → Cl.I64 d.n → s = Cl.txt k d → c = d
/-- What is taken off is of a kind. -/
def Tk (k : Int) (l : List Nat) (c : Cl.C) (n e : Nat) : Prop := Cl.I64 c.n ∧ c.s.size ≤ 100000 ∧ n ≤ l.length ∧ Cl.bare k l = if e ≠ 0 then (Cl.empty, 0, e) else if Cl.isK k c = true then (c, n, 0) else (Cl.empty, 0, 4)
/-- The contracts of a kind's functions. -/
structure KF (k : Int) (a b g d t : FuncId) : Prop where
  is : ∀ (c : Cl.C) (w : World) (r : Bool), TA w → Cl.I64 c.n → c.s.size ≤ 1000000 → Cl.isK k c = r → Calls Tryz.prog a #[cv c] w fun e w' => e = .returned (.bool r) ∧ Below w.heap.size w w'
  text : ∀ (c : Cl.C) (w : World) (x : ByteArray), TA w → Cl.I64 c.n → Cl.isK k c = true → Cl.txt k c = x → Calls Tryz.prog b #[cv c] w fun e w' => e = .returned (.string x) ∧ Below w.heap.size w w'
  guess : ∀ (s : ByteArray) (w : World), TA w → s.size ≤ 100000 → Calls Tryz.prog g #[.string s] w fun e w' => ∃ c, e = .returned (cv c) ∧ Gs k s c ∧ Below w.heap.size w w'
  bits : ∀ (c : Cl.C) (w : World) (x : ByteArray), TA w → Cl.I64 c.n → Cl.isK k c = true → str (Cl.body k c) = x → Calls Tryz.prog d #[cv c] w fun e w' => e = .returned (.string x) ∧ Below w.heap.size w w'
  take : ∀ (s : ByteArray) (w : World), TA w → s.size ≤ 100000 → Calls Tryz.prog t #[.string s] w fun e w' => ∃ c n e0, e = .returned (.tuple #[cv c, .int .i64 (n : Nat), .int .i64 (e0 : Nat)]) ∧ Tk k (bl s) c n e0 ∧ Below w.heap.size w w'
theorem isK_at {k : Int} {c : Cl.C} (h : Cl.isK k c = true) : c.u = false ∧ (k = 1 → bl c.s = [] ∧ (c.n = 0 ∨ c.n = 1)) ∧ (k = 2 ∨ k = 3 → bl c.s = []) ∧ (k = 4 → c.n = 0 ∧ c.s.size ≤ 1024 ∧ Utf.vld (bl c.s) = true) ∧ (k = 5 → c.n = 0 ∧ c.s.size ≤ 1024) := by
  have hu := Cl.isK_u h
  unfold Cl.isK at h
  refine ⟨hu, ?_, ?_, ?_, ?_⟩
  · rintro rfl; simp [hu] at h; exact h
  · rintro (rfl | rfl) <;> simp [hu] at h
    · exact h.1
    · exact h
  · rintro rfl; simp [hu] at h; exact ⟨h.1.1, h.1.2, h.2⟩
  · rintro rfl; simp [hu] at h; exact h
theorem txt_at {k : Int} {c : Cl.C} (hu : c.u = false) : Cl.txt k c = if k = 1 then (if c.n = 1 then Cl.trueB else Cl.falseB) else if k = 2 ∨ k = 3 then itS c.n else if k = 4 then str (Utf.tidy (bl c.s)) else str (120 :: Cl.hexs (bl c.s)) := by
  unfold Cl.txt; rw [hu]; rfl
theorem escs_many : ∀ l : List Nat, l.length ≤ (Utf.escs l).length
  | [] => Nat.le_refl _
  | c :: l => by
    have := (Utf.escB_len c).1
    have := escs_many l
    rw [Utf.escs_cons, List.length_append, List.length_cons]; omega
theorem unq_small (l : List Nat) (hl : ∀ x ∈ l, x < 256) (t : List Nat) (n : Nat) (h : Utf.unq l = (t, n, 0)) : t.length ≤ l.length := by
  obtain ⟨_, h2, h3⟩ := cunq_good l hl t n h
  have := escs_many t
  have e : (Utf.tidy t).length = (Utf.escs t).length + 2 := by simp [Utf.tidy]
  omega
theorem empty_size : (⟨#[]⟩ : ByteArray).size ≤ 100000 := by decide
theorem str_small (l : List Nat) (n : Nat) (h : l.length ≤ n) (hn : n ≤ 100000) : (str l).size ≤ 100000 := by rw [str_size]; omega

theorem kf1 : KF 1 108 109 110 111 112 where
  is c w r T hi hm hr := cIsBool c w r hr
  text c w x T hi hk hx := cBoolText c w x (by rw [← hx, txt_at (isK_at hk).1]; rfl)
  guess s w T hm := (cGuessBool s w _ rfl).mono fun e w' ⟨h1, h2⟩ => ⟨_, h1, ⟨by simp only [Cl.I64]; split <;> omega, empty_size, fun d hd hi hx => by
    have hq := isK_at hd
    have h3 := hq.2.1 rfl
    refine Cl.C.ext' hq.1.symm ?_ h3.1.symm
    rw [txt_at hq.1] at hx
    rcases h3.2 with h0 | h0 <;> rw [h0] at hx ⊢
    · have hx : s = Cl.falseB := hx
      have : s ≠ Cl.trueB := fun e => absurd (congrArg bl (e.symm.trans hx)) (by decide)
      exact if_neg this
    · exact if_pos hx⟩, h2⟩
  bits c w x T hi hk hx := cBoolBits c w x (by
    rw [← hx]
    rcases (isK_at hk).2.1 rfl with ⟨_, h0 | h0⟩ <;> simp only [Cl.body, h0] <;> rfl)
  take s w T hm := by
    obtain ⟨b, n, e0, hr⟩ : ∃ b n e0, ty (bl s) = (b, n, e0) := ⟨_, _, _, rfl⟩
    refine (cTakeBool s w b n e0 hr).mono fun e w' ⟨h1, h2⟩ => ⟨_, _, _, h1, ⟨by simp only [Cl.I64]; split <;> omega, empty_size, ?_, ?_⟩, h2⟩
    · unfold ty at hr
      have : bl s ≠ [] → 1 ≤ (bl s).length := fun h => by cases hq : bl s with | nil => exact absurd hq h | cons => simp
      repeat' split at hr
      all_goals simp only [Prod.mk.injEq] at hr; obtain ⟨_, rfl, _⟩ := hr; first | omega | (exact this (by assumption)) | exact Nat.zero_le _
    · unfold ty at hr
      unfold Cl.bare
      rw [if_pos rfl]
      by_cases h0 : bl s = []
      · rw [if_pos h0] at hr ⊢
        simp only [Prod.mk.injEq] at hr; obtain ⟨rfl, rfl, rfl⟩ := hr; rfl
      · rw [if_neg h0] at hr ⊢
        by_cases g1 : (bl s).getD 0 0 = 1
        · rw [if_pos g1] at hr
          simp only [Prod.mk.injEq] at hr; obtain ⟨rfl, rfl, rfl⟩ := hr
          rw [if_pos (by omega), g1]; rfl
        · rw [if_neg g1] at hr
          by_cases g2 : (bl s).getD 0 0 = 0
          · rw [if_pos g2] at hr
            simp only [Prod.mk.injEq] at hr; obtain ⟨rfl, rfl, rfl⟩ := hr
            rw [if_pos (by omega), g2]; rfl
          · rw [if_neg g2] at hr
            simp only [Prod.mk.injEq] at hr; obtain ⟨rfl, rfl, rfl⟩ := hr
            rw [if_neg (by omega)]; rfl
theorem kf2 : KF 2 113 114 115 116 117 where
  is c w r T hi hm hr := cIs32 c w r hi hr
  text c w x T hi hk hx := (cWholeText c w T.pow hi).mono fun e w' ⟨h1, h2⟩ => ⟨by rw [h1, ← hx, txt_at (isK_at hk).1]; rfl, h2⟩
  guess s w T hm := (cGuessWhole s w T.err (by omega)).mono fun e w' ⟨z, h1, h2, h3, h4⟩ => ⟨_, h1, ⟨h2, empty_size, fun d hd hi hx => by
    have hq := isK_at hd
    refine Cl.C.ext' hq.1.symm (h3 d.n hi ?_) (hq.2.2.1 (by decide)).symm
    rw [hx, txt_at hq.1]; rfl⟩, h4⟩
  bits c w x T hi hk hx := cWholeBits c w hi x (by rw [← hx]; rfl)
  take s w T hm := by
    by_cases h8 : s.size < 8
    · exact (cTakeWhole s w (by omega) _ _ _ (if_pos h8)).mono fun e w' ⟨h1, h2⟩ => ⟨_, _, _, h1, ⟨by simp [Cl.I64, Cl.empty], empty_size, by omega, by unfold Cl.bare; rw [if_neg (by decide), if_pos (by decide), if_pos (by rw [bl_length]; exact h8)]; rfl⟩, h2⟩
    · have hn := (num8_lt 8 ((bl s).take 8) (by rw [List.length_take, bl_length]; omega) fun x hx => bl_byte s x (List.mem_of_mem_take hx))
      exact (cTakeWhole s w (by omega) _ _ _ (if_neg h8)).mono fun e w' ⟨h1, h2⟩ => ⟨_, _, _, h1, ⟨by simp only [Cl.I64]; omega, empty_size, by rw [bl_length]; omega, by unfold Cl.bare; rw [if_neg (by decide), if_pos (by decide), if_neg (by rw [bl_length]; exact h8)]; rfl⟩, h2⟩
theorem kf3 : KF 3 118 114 115 116 117 where
  is c w r T hi hm hr := cIs64 c w r hr
  text c w x T hi hk hx := (cWholeText c w T.pow hi).mono fun e w' ⟨h1, h2⟩ => ⟨by rw [h1, ← hx, txt_at (isK_at hk).1]; rfl, h2⟩
  guess s w T hm := (cGuessWhole s w T.err (by omega)).mono fun e w' ⟨z, h1, h2, h3, h4⟩ => ⟨_, h1, ⟨h2, empty_size, fun d hd hi hx => by
    have hq := isK_at hd
    refine Cl.C.ext' hq.1.symm (h3 d.n hi ?_) (hq.2.2.1 (by decide)).symm
    rw [hx, txt_at hq.1]; rfl⟩, h4⟩
  bits c w x T hi hk hx := cWholeBits c w hi x (by rw [← hx]; rfl)
  take s w T hm := by
    by_cases h8 : s.size < 8
    · exact (cTakeWhole s w (by omega) _ _ _ (if_pos h8)).mono fun e w' ⟨h1, h2⟩ => ⟨_, _, _, h1, ⟨by simp [Cl.I64, Cl.empty], empty_size, by omega, by unfold Cl.bare; rw [if_neg (by decide), if_pos (by decide), if_pos (by rw [bl_length]; exact h8)]; rfl⟩, h2⟩
    · have hn := (num8_lt 8 ((bl s).take 8) (by rw [List.length_take, bl_length]; omega) fun x hx => bl_byte s x (List.mem_of_mem_take hx))
      exact (cTakeWhole s w (by omega) _ _ _ (if_neg h8)).mono fun e w' ⟨h1, h2⟩ => ⟨_, _, _, h1, ⟨by simp only [Cl.I64]; omega, empty_size, by rw [bl_length]; omega, by unfold Cl.bare; rw [if_neg (by decide), if_pos (by decide), if_neg (by rw [bl_length]; exact h8)]; rfl⟩, h2⟩
theorem kf4 : KF 4 119 120 121 122 123 where
  is c w r T hi hm hr := cIsString c w T.tab hm r hr
  text c w x T hi hk hx := by
    have hq := (isK_at hk).2.2.2.1 rfl
    exact (cUtfText c w T.tab (by omega) hq.2.2).mono fun e w' ⟨h1, h2⟩ => ⟨by rw [h1, ← hx, txt_at (isK_at hk).1]; rfl, h2⟩
  guess s w T hm := by
    obtain ⟨t, n0, e0, hu⟩ : ∃ t n0 e0, Utf.unq (bl s) = (t, n0, e0) := ⟨_, _, _, rfl⟩
    refine (cGuessUtf s w T.tab (by omega) t n0 e0 hu).mono fun e w' ⟨h1, h2⟩ => ⟨_, h1, ⟨by simp [Cl.I64], ?_, fun d hd hi hx => ?_⟩, h2⟩
    · by_cases he : e0 = 0
      · subst he
        have := unq_small (bl s) (bl_byte s) t n0 hu
        rw [bl_length] at this
        exact str_small _ _ this (by omega)
      · rw [(cunq_err (bl s) t n0 e0 hu he).1]; exact empty_size
    · have hq := isK_at hd
      have h4 := hq.2.2.2.1 rfl
      rw [txt_at hq.1] at hx
      have h5 := Cl.tidy_unq d.s h4.2.2
      have hx : s = str (Utf.tidy (bl d.s)) := hx
      rw [← hx, hu] at h5
      simp only [Prod.mk.injEq] at h5
      refine Cl.C.ext' hq.1.symm h4.1.symm ?_
      show bl (str t) = _
      rw [h5.1, str_bl]
  bits c w x T hi hk hx := cRunBits c w T.mx (by have := (isK_at hk).2.2.2; simp at this; omega) x (by rw [← hx]; rfl)
  take s w T hm := by
    obtain ⟨x, n, e0, hr⟩ : ∃ x n e0, Cl.run (bl s) [] 0 = (x, n, e0) := ⟨_, _, _, rfl⟩
    refine (cTakeRun s w hm x n e0 hr).mono fun e w' ⟨h1, h2⟩ => ⟨_, _, _, h1, ⟨by simp [Cl.I64], ?_, ?_, ?_⟩, h2⟩
    · by_cases he : e0 = 0
      · subst he
        obtain ⟨_, _, _, _, _, q⟩ := Cl.run_good _ (bl s) [] 0 x n (Nat.le_refl _) (by simp) hr
        exact str_small x _ q (by decide)
      · rw [(Cl.run_err _ (bl s) [] 0 x n e0 (Nat.le_refl _) hr he).1]; exact empty_size
    · by_cases he : e0 = 0
      · subst he
        obtain ⟨s', t', _, q2, q3, _⟩ := Cl.run_good _ (bl s) [] 0 x n (Nat.le_refl _) (by simp) hr
        rw [q3, q2]; simp
      · rw [(Cl.run_err _ (bl s) [] 0 x n e0 (Nat.le_refl _) hr he).2.1]; exact Nat.zero_le _
    · unfold Cl.bare
      rw [if_neg (by decide), if_neg (by decide), hr]
theorem kf5 : KF 5 124 125 126 122 123 where
  is c w r T hi hm hr := cIsBytes c w r hr
  text c w x T hi hk hx := by
    have hq := (isK_at hk).2.2.2.2 rfl
    exact cBytesText c w (by omega) x (by rw [← hx, txt_at (isK_at hk).1]; rfl)
  guess s w T hm := by
    refine (cGuessBytes s w hm).mono fun e w' ⟨h1, h2⟩ => ⟨_, h1, ⟨by simp [Cl.I64], ?_, fun d hd hi hx => ?_⟩, h2⟩
    · have h3 := gx_len _ (bl (trimX s)) (Nat.le_refl _)
      have h4 := trimX_size s
      rw [bl_length] at h3
      exact str_small _ _ h3 (by omega)
    · have hq := isK_at hd
      rw [txt_at hq.1] at hx
      have hx : s = str (120 :: Cl.hexs (bl d.s)) := hx
      have hb : bl s = 120 :: Cl.hexs (bl d.s) := by
        rw [hx, bl_str]
        intro y hy
        simp only [List.mem_cons] at hy
        rcases hy with rfl | hy
        · omega
        · exact Cl.hexs_byte (bl_byte d.s) y hy
      refine Cl.C.ext' hq.1.symm (hq.2.2.2.2 rfl).1.symm ?_
      show bl (str (gx (bl (trimX s)))) = _
      rw [trimX_bl, if_pos (by rw [hb]; simp), hb]
      simp only [List.drop_succ_cons, List.drop_zero]
      rw [gx_hexs _ (bl_byte d.s), str_bl]
  bits c w x T hi hk hx := cRunBits c w T.mx (by have := (isK_at hk).2.2.2; simp at this; omega) x (by rw [← hx]; rfl)
  take s w T hm := by
    obtain ⟨x, n, e0, hr⟩ : ∃ x n e0, Cl.run (bl s) [] 0 = (x, n, e0) := ⟨_, _, _, rfl⟩
    refine (cTakeRun s w hm x n e0 hr).mono fun e w' ⟨h1, h2⟩ => ⟨_, _, _, h1, ⟨by simp [Cl.I64], ?_, ?_, ?_⟩, h2⟩
    · by_cases he : e0 = 0
      · subst he
        obtain ⟨_, _, _, _, _, q⟩ := Cl.run_good _ (bl s) [] 0 x n (Nat.le_refl _) (by simp) hr
        exact str_small x _ q (by decide)
      · rw [(Cl.run_err _ (bl s) [] 0 x n e0 (Nat.le_refl _) hr he).1]; exact empty_size
    · by_cases he : e0 = 0
      · subst he
        obtain ⟨s', t', _, q2, q3, _⟩ := Cl.run_good _ (bl s) [] 0 x n (Nat.le_refl _) (by simp) hr
        rw [q3, q2]; simp
      · rw [(Cl.run_err _ (bl s) [] 0 x n e0 (Nat.le_refl _) hr he).2.1]; exact Nat.zero_le _
    · unfold Cl.bare
      rw [if_neg (by decide), if_neg (by decide), hr]
end Go.Proofs.YtanjdjiigfdnmaaGreatDoor
