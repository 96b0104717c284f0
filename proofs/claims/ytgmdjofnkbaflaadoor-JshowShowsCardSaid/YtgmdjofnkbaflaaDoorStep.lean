/- A text of JSON, read step by step: what is open, what comes next; plainly, no program. -/
import Derived.Test.YtgmdjofnkbaflaaDoorTree
import Derived.Test.YtgmdjofnkbaflaaDoorLit
namespace Go.Proofs.YtgmdjofnkbaflaaDoor.Jr
open Go.Lib
set_option linter.unusedVariables false
abbrev Fo := Tp.Fo
abbrev Nd := Tp.Nd

instance memDec (a : ByteArray) (l : List ByteArray) : Decidable (a ∈ l) := decidable_of_iff (bl a ∈ l.map bl) ⟨fun h => by
  obtain ⟨b, hb, e⟩ := List.mem_map.1 h
  rw [← bl_inj e]; exact hb, fun h => List.mem_map.2 ⟨a, h, rfl⟩⟩
/-! ### bytes -/
def hd (s : List Nat) : Nat := s.getD 0 0
@[simp] theorem hd_nil : hd [] = 0 := rfl
@[simp] theorem hd_cons (c : Nat) (s : List Nat) : hd (c :: s) = c := rfl
def blank (c : Nat) : Bool := decide (c = 32 ∨ c = 9 ∨ c = 10 ∨ c = 13)
/-- How many blanks stand next. -/
def nb : List Nat → Nat
  | [] => 0
  | c :: t => if blank c = true then nb t + 1 else 0
def isd (c : Nat) : Bool := decide (48 ≤ c ∧ c ≤ 57)
/-- How many digits stand next. -/
def nd : List Nat → Nat
  | [] => 0
  | c :: t => if isd c = true then nd t + 1 else 0
/-- How many bytes of a word stand next. -/
def wd : List Nat → List Nat → Nat
  | [], _ => 0
  | c :: w, s => if hd s = c ∧ s ≠ [] then wd w (s.drop 1) + 1 else 0
theorem nb_le : ∀ s : List Nat, nb s ≤ s.length
  | [] => Nat.le_refl _
  | c :: t => by have := nb_le t; unfold nb; split <;> simp <;> omega
theorem nd_le : ∀ s : List Nat, nd s ≤ s.length
  | [] => Nat.le_refl _
  | c :: t => by have := nd_le t; unfold nd; split <;> simp <;> omega
theorem wd_le : ∀ w s : List Nat, wd w s ≤ w.length ∧ wd w s ≤ s.length
  | [], s => by simp [wd]
  | c :: w, s => by
    unfold wd
    split
    · rename_i h
      have := wd_le w (s.drop 1)
      rw [List.length_drop] at this
      have : 0 < s.length := by cases s with | nil => simp at h | cons => simp
      simp only [List.length_cons]; omega
    · simp
theorem drop_cons' {s : List Nat} {n c : Nat} {t : List Nat} (h : s.drop n = c :: t) : s.drop (n + 1) = t := by
  rw [← List.drop_drop, h]; rfl
theorem nb_stop : ∀ s : List Nat, blank (hd (s.drop (nb s))) = false
  | [] => by simp [nb, blank]
  | c :: t => by
    unfold nb
    split
    · exact nb_stop t
    · rename_i h; simpa using h
theorem nb_zero {s : List Nat} (h : blank (hd s) = false) : nb s = 0 := by
  cases s with
  | nil => rfl
  | cons c t => simp at h; simp [nb, h]
theorem nb_idem (s : List Nat) : nb (s.drop (nb s)) = 0 := nb_zero (nb_stop s)
theorem nd_stop : ∀ s : List Nat, isd (hd (s.drop (nd s))) = false
  | [] => by simp [nd, isd]
  | c :: t => by
    unfold nd
    split
    · exact nd_stop t
    · rename_i h; simpa using h
theorem nb_append : ∀ (b s : List Nat), (∀ c ∈ b, blank c = true) → nb (b ++ s) = b.length + nb s
  | [], s, _ => by simp
  | c :: b, s, h => by
    have := nb_append b s (fun x hx => h x (List.mem_cons_of_mem _ hx))
    simp only [List.cons_append, nb, h c (List.mem_cons_self ..), if_true, this, List.length_cons]; omega

/-! ### numbers -/
def nSg (s : List Nat) : Nat := if hd s = 45 then 1 else 0
def nIn (s : List Nat) : Nat := if hd s = 48 then 1 else nd s
/-- A point and digits; 1: no digits. -/
def nFr (s : List Nat) : Nat := if hd s = 46 then 1 + nd (s.drop 1) else 0
def nPm (s : List Nat) : Nat := if hd s = 43 ∨ hd s = 45 then 1 else 0
/-- An e, perhaps a sign, and digits: how many bytes ahead of the digits, and how many digits. -/
def isE (s : List Nat) : Prop := hd s = 101 ∨ hd s = 69
instance (s : List Nat) : Decidable (isE s) := inferInstanceAs (Decidable (_ ∨ _))
def nEh (s : List Nat) : Nat := if isE s then 1 + nPm (s.drop 1) else 0
def nEd (s : List Nat) : Nat := if isE s then nd (s.drop (nEh s)) else 0
/-- Digits, as a number. -/
def val (l : List Nat) : Nat := l.foldl (fun n c => 10 * n + (c - 48)) 0
/-- The number, with its sign. -/
def nVal (s : List Nat) : Int := if hd s = 45 then -(val ((s.drop 1).take (nIn (s.drop 1))) : Nat) else (val (s.take (nIn s)) : Nat)
/-- Where each part of a number begins. -/
def nP1 (s : List Nat) : Nat := nSg s
def nP2 (s : List Nat) : Nat := nP1 s + nIn (s.drop (nP1 s))
def nP3 (s : List Nat) : Nat := nP2 s + nFr (s.drop (nP2 s))
def nP4 (s : List Nat) : Nat := nP3 s + nEh (s.drop (nP3 s))
def nP5 (s : List Nat) : Nat := nP4 s + nEd (s.drop (nP3 s))
/-- The bytes that are a number, up to its end; or up to where it is wrong: (how many, is it right). -/
def scan (s : List Nat) : Nat × Bool :=
  if nP2 s = nP1 s then (nP1 s, false)
  else if nP3 s = nP2 s + 1 then (nP3 s, false)
  else if isE (s.drop (nP3 s)) ∧ nP5 s = nP4 s then (nP4 s, false)
  else (nP5 s, true)
/-- Is it whole, and does it fit? -/
def fits (s : List Nat) : Prop := nP5 s = nP2 s ∧ -9223372036854775808 ≤ nVal s ∧ nVal s ≤ 9223372036854775807
instance (s : List Nat) : Decidable (fits s) := inferInstanceAs (Decidable (_ ∧ _))

/-! ### states -/
inductive Nx where | value | part | key | colon | behind
deriving DecidableEq
/-- What is open: its kind, its key, the keys that it had, its parts so far. -/
structure Fr where
  kind : Int
  key : ByteArray
  had : List ByteArray
  done : Fo
structure St where
  at_ : Nat
  s : List Nat
  nx : Nx
  key : ByteArray
  op : List Fr
  root : Fo
inductive Res where
  | ok (F : Fo)
  | err (at_ : Nat) (e : Int)
/-- A value behind the others. -/
def place (T : Fo) : List Fr → Fo → List Fr × Fo
  | [], R => ([], Tp.app R T)
  | f :: r, R => ({ f with done := Tp.app f.done T } :: r, R)
/-- The nodes so far; of what is open the kinds as k says. -/
def zf (k : Int → Int) : List Fr → Fo → List Nd
  | [], R => Tp.flat R
  | f :: r, R => zf k r R ++ ⟨k f.kind, f.key, 0, ⟨#[]⟩, 0⟩ :: Tp.flat f.done
def cnt : List Fr → Fo → Nat
  | [], R => Tp.sz R
  | f :: r, R => cnt r R + (1 + Tp.sz f.done)
theorem zf_len (k : Int → Int) : ∀ op R, (zf k op R).length = cnt op R
  | [], R => rfl
  | f :: r, R => by
    rw [zf, List.length_append, zf_len k r R]
    simp [cnt, Tp.sz]; omega
theorem place_zf (k : Int → Int) (T : Fo) : ∀ op R, zf k (place T op R).1 (place T op R).2 = zf k op R ++ Tp.flat T
  | [], R => by simp [place, zf, Tp.flat_app]
  | f :: r, R => by simp [place, zf, Tp.flat_app]
theorem place_cnt (T : Fo) : ∀ op R, cnt (place T op R).1 (place T op R).2 = cnt op R + Tp.sz T
  | [], R => by simp [place, cnt, Tp.sz_app]
  | f :: r, R => by simp [place, cnt, Tp.sz_app]; omega
theorem place_len (T : Fo) : ∀ op R, (place T op R).1.length = op.length
  | [], R => rfl
  | f :: r, R => rfl
theorem place_two (T U : Fo) : ∀ op R, place U (place T op R).1 (place T op R).2 = place (Tp.app T U) op R
  | [], R => by simp [place, Tp.app_assoc]
  | f :: r, R => by simp [place, Tp.app_assoc]
def nd1 (k : Int) (y : ByteArray) (n : Int) (s : ByteArray) (c : Fo) : Fo := .node k y n s c .nil
/-- A value of one node is read. -/
def leaf (t : St) (m : Nat) (k n : Int) (x : ByteArray) : St :=
  { at_ := t.at_ + m, s := t.s.drop m, nx := .behind, key := ⟨#[]⟩, op := (place (nd1 k t.key n x .nil) t.op t.root).1, root := (place (nd1 k t.key n x .nil) t.op t.root).2 }
/-- A list, or an object, begins. -/
def opn (t : St) (k : Int) : St := { at_ := t.at_ + 1, s := t.s.drop 1, nx := .part, key := ⟨#[]⟩, op := ⟨k, t.key, [], .nil⟩ :: t.op, root := t.root }
/-- What was opened last ends. -/
def cls (t : St) : St := match t.op with
  | [] => t
  | f :: r => { at_ := t.at_ + 1, s := t.s.drop 1, nx := .behind, key := t.key, op := (place (nd1 f.kind f.key 0 ⟨#[]⟩ f.done) r t.root).1, root := (place (nd1 f.kind f.key 0 ⟨#[]⟩ f.done) r t.root).2 }
def endOf (k : Int) : Nat := if k = 7 then 125 else 93
def ahead : List Fr → Nx
  | [] => .value
  | f :: _ => if f.kind = 7 then .key else .value
def go (t : St) (m : Nat) (x : Nx) : St := { t with at_ := t.at_ + m, s := t.s.drop m, nx := x }
def skip (t : St) : St := { t with at_ := t.at_ + nb t.s, s := t.s.drop (nb t.s) }
def bgn (c : Nat) : Bool := decide (c = 110 ∨ c = 102 ∨ c = 116 ∨ c = 34 ∨ c = 91 ∨ c = 123 ∨ c = 45) || isd c
def word (t : St) (w : List Nat) (k : Int) : St ⊕ Res := if wd w t.s = w.length then .inl (leaf t w.length k 0 ⟨#[]⟩) else .inr (.err (t.at_ + wd w t.s) 70)
def text (t : St) : St ⊕ Res := if (Utf.unq t.s).2.2 ≠ 0 then .inr (.err t.at_ (Utf.unq t.s).2.2) else .inl (leaf t (Utf.unq t.s).2.1 5 0 (str (Utf.unq t.s).1))
def number (t : St) : St ⊕ Res :=
  if (scan t.s).2 = false then .inr (.err (t.at_ + (scan t.s).1) 70)
  else if fits t.s then .inl (leaf t (scan t.s).1 4 (nVal t.s) ⟨#[]⟩) else .inr (.err t.at_ 73)
/-- A value's first bytes: what they are. -/
def valueB (t : St) : St ⊕ Res :=
  if hd t.s = 110 then word t [110, 117, 108, 108] 1
  else if hd t.s = 102 then word t [102, 97, 108, 115, 101] 2
  else if hd t.s = 116 then word t [116, 114, 117, 101] 3
  else if hd t.s = 34 then text t
  else if hd t.s = 91 then .inl (opn t 6)
  else if hd t.s = 123 then .inl (opn t 7)
  else number t
def stepV (t : St) : St ⊕ Res :=
  if bgn (hd t.s) = false then .inr (.err t.at_ 70)
  else if 4000 ≤ cnt t.op t.root then .inr (.err t.at_ 5)
  else if 64 ≤ t.op.length then .inr (.err t.at_ 72)
  else valueB t
def stepP (t : St) : St ⊕ Res := match t.op with
  | [] => .inr (.err t.at_ 70)
  | f :: _ => if hd t.s = endOf f.kind then .inl (cls t) else .inl (go t 0 (ahead t.op))
def stepK (t : St) : St ⊕ Res := match t.op with
  | [] => .inr (.err t.at_ 70)
  | f :: r =>
    if hd t.s ≠ 34 then .inr (.err t.at_ 70)
    else if (Utf.unq t.s).2.2 ≠ 0 then .inr (.err t.at_ (Utf.unq t.s).2.2)
    else if str (Utf.unq t.s).1 ∈ f.had then .inr (.err t.at_ 71)
    else .inl { at_ := t.at_ + (Utf.unq t.s).2.1, s := t.s.drop (Utf.unq t.s).2.1, nx := .colon, key := str (Utf.unq t.s).1, op := { f with had := f.had ++ [str (Utf.unq t.s).1] } :: r, root := t.root }
def stepC (t : St) : St ⊕ Res := if hd t.s ≠ 58 then .inr (.err t.at_ 70) else .inl (go t 1 .value)
def stepB (t : St) : St ⊕ Res := match t.op with
  | [] => if t.s = [] then .inr (.ok t.root) else .inr (.err t.at_ 70)
  | f :: _ => if hd t.s = endOf f.kind then .inl (cls t) else if hd t.s ≠ 44 then .inr (.err t.at_ 70) else .inl (go t 1 (ahead t.op))
/-- One step, blanks being gone past. -/
def stepS (t : St) : St ⊕ Res := match t.nx with
  | .value => stepV t
  | .part => stepP t
  | .key => stepK t
  | .colon => stepC t
  | .behind => stepB t
def step (t : St) : St ⊕ Res := stepS (skip t)
inductive Steps : St → St → Prop
  | refl (t : St) : Steps t t
  | next {a b c : St} (h : step a = .inl b) (r : Steps b c) : Steps a c
theorem Steps.one {a b : St} (h : step a = .inl b) : Steps a b := .next h (.refl b)
theorem Steps.trans {a b c : St} (h : Steps a b) (k : Steps b c) : Steps a c := by
  induction h with
  | refl => exact k
  | next h _ ih => exact .next h (ih k)
/-- A reading's end. -/
def Ends (t : St) (r : Res) : Prop := ∃ u, Steps t u ∧ step u = .inr r
/-- So many steps at most. -/
def run : Nat → St → Option Res
  | 0, _ => none
  | n + 1, t => match step t with
    | .inl u => run n u
    | .inr r => some r
theorem run_ends : ∀ (n : Nat) (t : St) (r : Res), run n t = some r → Ends t r
  | 0, t, r, h => by cases h
  | n + 1, t, r, h => by
    unfold run at h
    cases hs : step t with
    | inl u =>
      rw [hs] at h
      obtain ⟨v, h1, h2⟩ := run_ends n u r h
      exact ⟨v, .next hs h1, h2⟩
    | inr q =>
      rw [hs] at h
      injection h with h
      subst h
      exact ⟨t, .refl t, hs⟩
theorem Ends.now {t : St} {r : Res} (h : step t = .inr r) : Ends t r := ⟨t, .refl t, h⟩
theorem Ends.after {a b : St} {r : Res} (h : Steps a b) (k : Ends b r) : Ends a r := by
  obtain ⟨u, h1, h2⟩ := k
  exact ⟨u, h.trans h1, h2⟩
theorem Ends.only {a : St} {r q : Res} (h : Ends a r) (k : Ends a q) : r = q := by
  obtain ⟨u, h1, h2⟩ := h
  induction h1 with
  | refl t =>
    obtain ⟨v, k1, k2⟩ := k
    cases k1 with
    | refl => rw [h2] at k2; injection k2
    | next h r => rw [h2] at h; cases h
  | next h r ih =>
    obtain ⟨v, k1, k2⟩ := k
    cases k1 with
    | refl => rw [h] at k2; cases k2
    | next h' r' =>
      rw [h] at h'
      injection h' with h'
      subst h'
      exact ih ⟨v, r', k2⟩ h2
def init (l : List Nat) : St := { at_ := 0, s := l, nx := .value, key := ⟨#[]⟩, op := [], root := .nil }
/-- What reading a text gives. -/
def Reads (l : List Nat) (r : Res) : Prop := if 1048576 < l.length then r = .err 0 5 else Ends (init l) r
theorem Reads.only {l : List Nat} {r q : Res} (h : Reads l r) (k : Reads l q) : r = q := by
  unfold Reads at h k
  split at h
  · rename_i h1; rw [if_pos h1] at k; rw [h, k]
  · rename_i h1; rw [if_neg h1] at k; exact h.only k
/-- Blanks that are gone past are gone past. -/
theorem skip_skip (t : St) : skip (skip t) = skip t := by
  unfold skip
  simp only [nb_idem]
  simp
theorem step_skip (t : St) : step (skip t) = step t := by unfold step; rw [skip_skip]
end Go.Proofs.YtgmdjofnkbaflaaDoor.Jr
