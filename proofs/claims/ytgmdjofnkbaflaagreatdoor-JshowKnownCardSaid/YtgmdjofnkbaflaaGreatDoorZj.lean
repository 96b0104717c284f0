/- Several texts in one: Clos, Digi, Keyt, Lawp, Numb, Open, Pars, Parse, Put, Rd, Seven, Step, Take, Vale, Workj. -/
import Derived.Test.YtgmdjofnkbaflaaGreatDoorTree
import Derived.Test.YtgmdjofnkbaflaaGreatDoorLit
import Derived.Test.YtgmdjofnkbaflaaGreatDoorSep
import Derived.Deep.QuietTactic
import Derived.BigQuiet
import Derived.Test.YtgmdjofnkbaflaaGreatDoorZk
import Derived.Test.YtgmdjofnkbaflaaGreatDoorFew
import Derived.Test.YtgmdjofnkbaflaaGreatDoorSet
import Derived.Test.YtgmdjofnkbaflaaGreatDoorUpart
import Derived.Deep.RegionHeld3
import Derived.BigRegion
import Derived.Lib.ParseIntB
import Derived.Test.YtgmdjofnkbaflaaGreatDoorEq
/- A text of JSON, read step by step: what is open, what comes next; plainly, no program. -/
namespace Go.Proofs.YtgmdjofnkbaflaaGreatDoor.Jr
open Go.Lib
set_option linter.unusedVariables false
abbrev Fo := Tp.Fo
abbrev Nd := Tp.Nd

instance memDec (a : ByteArray) (l : List ByteArray) : Decidable (a ∈ l) := decidable_of_iff (bl a ∈ l.map bl) ⟨fun h => by
  obtain ⟨b, hb, e⟩ := List.mem_map.1 h
  rw [← bl_inj e]; exact hb, fun h => List.mem_map.2 ⟨a, h, rfl⟩⟩
/-! ### bytes -/
def hd (s : List Nat) : Nat := s.getD 0 0
@[simp] theorem hd_nil : hd [] = 0 := rfl
@[simp] theorem hd_cons (c : Nat) (s : List Nat) : hd (c :: s) = c := rfl
def blank (c : Nat) : Bool := decide (c = 32 ∨ c = 9 ∨ c = 10 ∨ c = 13)
/-- How many blanks stand next. -/
def nb : List Nat → Nat
  | [] => 0
  | c :: t => if blank c = true then nb t + 1 else 0
def isd (c : Nat) : Bool := decide (48 ≤ c ∧ c ≤ 57)
/-- How many digits stand next. -/
def nd : List Nat → Nat
  | [] => 0
  | c :: t => if isd c = true then nd t + 1 else 0
/-- How many bytes of a word stand next. -/
def wd : List Nat → List Nat → Nat
  | [], _ => 0
  | c :: w, s => if hd s = c ∧ s ≠ [] then wd w (s.drop 1) + 1 else 0
theorem nb_le : ∀ s : List Nat, nb s ≤ s.length
  | [] => Nat.le_refl _
  | c :: t => by have := nb_le t; unfold nb; split <;> simp <;> omega
theorem nd_le : ∀ s : List Nat, nd s ≤ s.length
  | [] => Nat.le_refl _
  | c :: t => by have := nd_le t; unfold nd; split <;> simp <;> omega
theorem wd_le : ∀ w s : List Nat, wd w s ≤ w.length ∧ wd w s ≤ s.length
  | [], s => by simp [wd]
  | c :: w, s => by
    unfold wd
    split
    · rename_i h
      have := wd_le w (s.drop 1)
      rw [List.length_drop] at this
      have : 0 < s.length := by cases s with | nil => simp at h | cons => simp
      simp only [List.length_cons]; omega
    · simp
theorem drop_cons' {s : List Nat} {n c : Nat} {t : List Nat} (h : s.drop n = c :: t) : s.drop (n + 1) = t := by
  rw [← List.drop_drop, h]; rfl
theorem nb_stop : ∀ s : List Nat, blank (hd (s.drop (nb s))) = false
  | [] => by simp [nb, blank]
  | c :: t => by
    unfold nb
    split
    · exact nb_stop t
    · rename_i h; simpa using h
theorem nb_zero {s : List Nat} (h : blank (hd s) = false) : nb s = 0 := by
  cases s with
  | nil => rfl
  | cons c t => simp at h; simp [nb, h]
theorem nb_idem (s : List Nat) : nb (s.drop (nb s)) = 0 := nb_zero (nb_stop s)
theorem nd_stop : ∀ s : List Nat, isd (hd (s.drop (nd s))) = false
  | [] => by simp [nd, isd]
  | c :: t => by
    unfold nd
    split
    · exact nd_stop t
    · rename_i h; simpa using h
theorem nb_append : ∀ (b s : List Nat), (∀ c ∈ b, blank c = true) → nb (b ++ s) = b.length + nb s
  | [], s, _ => by simp
  | c :: b, s, h => by
    have := nb_append b s (fun x hx => h x (List.mem_cons_of_mem _ hx))
    simp only [List.cons_append, nb, h c (List.mem_cons_self ..), if_true, this, List.length_cons]; omega

/-! ### numbers -/
def nSg (s : List Nat) : Nat := if hd s = 45 then 1 else 0
def nIn (s : List Nat) : Nat := if hd s = 48 then 1 else nd s
/-- A point and digits; 1: no digits. -/
def nFr (s : List Nat) : Nat := if hd s = 46 then 1 + nd (s.drop 1) else 0
def nPm (s : List Nat) : Nat := if hd s = 43 ∨ hd s = 45 then 1 else 0
/-- An e, perhaps a sign, and digits: how many bytes ahead of the digits, and how many digits. -/
def isE (s : List Nat) : Prop := hd s = 101 ∨ hd s = 69
instance (s : List Nat) : Decidable (isE s) := inferInstanceAs (Decidable (_ ∨ _))
def nEh (s : List Nat) : Nat := if isE s then 1 + nPm (s.drop 1) else 0
def nEd (s : List Nat) : Nat := if isE s then nd (s.drop (nEh s)) else 0
/-- Digits, as a number. -/
def val (l : List Nat) : Nat := l.foldl (fun n c => 10 * n + (c - 48)) 0
/-- The number, with its sign. -/
def nVal (s : List Nat) : Int := if hd s = 45 then -(val ((s.drop 1).take (nIn (s.drop 1))) : Nat) else (val (s.take (nIn s)) : Nat)
/-- Where each part of a number begins. -/
def nP1 (s : List Nat) : Nat := nSg s
def nP2 (s : List Nat) : Nat := nP1 s + nIn (s.drop (nP1 s))
def nP3 (s : List Nat) : Nat := nP2 s + nFr (s.drop (nP2 s))
def nP4 (s : List Nat) : Nat := nP3 s + nEh (s.drop (nP3 s))
def nP5 (s : List Nat) : Nat := nP4 s + nEd (s.drop (nP3 s))
/-- The bytes that are a number, up to its end; or up to where it is wrong: (how many, is it right). -/
def scan (s : List Nat) : Nat × Bool :=
  if nP2 s = nP1 s then (nP1 s, false)
  else if nP3 s = nP2 s + 1 then (nP3 s, false)
  else if isE (s.drop (nP3 s)) ∧ nP5 s = nP4 s then (nP4 s, false)
  else (nP5 s, true)
/-- Is it whole, and does it fit? -/
def fits (s : List Nat) : Prop := nP5 s = nP2 s ∧ -9223372036854775808 ≤ nVal s ∧ nVal s ≤ 9223372036854775807
instance (s : List Nat) : Decidable (fits s) := inferInstanceAs (Decidable (_ ∧ _))

/-! ### states -/
inductive Nx where | value | part | key | colon | behind
deriving DecidableEq
/-- What is open: its kind, its key, the keys that it had, its parts so far. -/
structure Fr where
  kind : Int
  key : ByteArray
  had : List ByteArray
  done : Fo
structure St where
  at_ : Nat
  s : List Nat
  nx : Nx
  key : ByteArray
  op : List Fr
  root : Fo
inductive Res where
  | ok (F : Fo)
  | err (at_ : Nat) (e : Int)
/-- A value behind the others. -/
def place (T : Fo) : List Fr → Fo → List Fr × Fo
  | [], R => ([], Tp.app R T)
  | f :: r, R => ({ f with done := Tp.app f.done T } :: r, R)
/-- The nodes so far; of what is open the kinds as k says. -/
def zf (k : Int → Int) : List Fr → Fo → List Nd
  | [], R => Tp.flat R
  | f :: r, R => zf k r R ++ ⟨k f.kind, f.key, 0, ⟨#[]⟩, 0⟩ :: Tp.flat f.done
def cnt : List Fr → Fo → Nat
  | [], R => Tp.sz R
  | f :: r, R => cnt r R + (1 + Tp.sz f.done)
theorem zf_len (k : Int → Int) : ∀ op R, (zf k op R).length = cnt op R
  | [], R => rfl
  | f :: r, R => by
    rw [zf, List.length_append, zf_len k r R]
    simp [cnt, Tp.sz]; omega
theorem place_zf (k : Int → Int) (T : Fo) : ∀ op R, zf k (place T op R).1 (place T op R).2 = zf k op R ++ Tp.flat T
  | [], R => by simp [place, zf, Tp.flat_app]
  | f :: r, R => by simp [place, zf, Tp.flat_app]
theorem place_cnt (T : Fo) : ∀ op R, cnt (place T op R).1 (place T op R).2 = cnt op R + Tp.sz T
  | [], R => by simp [place, cnt, Tp.sz_app]
  | f :: r, R => by simp [place, cnt, Tp.sz_app]; omega
theorem place_len (T : Fo) : ∀ op R, (place T op R).1.length = op.length
  | [], R => rfl
  | f :: r, R => rfl
theorem place_two (T U : Fo) : ∀ op R, place U (place T op R).1 (place T op R).2 = place (Tp.app T U) op R
  | [], R => by simp [place, Tp.app_assoc]
  | f :: r, R => by simp [place, Tp.app_assoc]
def nd1 (k : Int) (y : ByteArray) (n : Int) (s : ByteArray) (c : Fo) : Fo := .node k y n s c .nil
/-- A value of one node is read. -/
def leaf (t : St) (m : Nat) (k n : Int) (x : ByteArray) : St :=
  { at_ := t.at_ + m, s := t.s.drop m, nx := .behind, key := ⟨#[]⟩, op := (place (nd1 k t.key n x .nil) t.op t.root).1, root := (place (nd1 k t.key n x .nil) t.op t.root).2 }
/-- A list, or an object, begins. -/
def opn (t : St) (k : Int) : St := { at_ := t.at_ + 1, s := t.s.drop 1, nx := .part, key := ⟨#[]⟩, op := ⟨k, t.key, [], .nil⟩ :: t.op, root := t.root }
/-- What was opened last ends. -/
def cls (t : St) : St := match t.op with
  | [] => t
  | f :: r => { at_ := t.at_ + 1, s := t.s.drop 1, nx := .behind, key := t.key, op := (place (nd1 f.kind f.key 0 ⟨#[]⟩ f.done) r t.root).1, root := (place (nd1 f.kind f.key 0 ⟨#[]⟩ f.done) r t.root).2 }
def endOf (k : Int) : Nat := if k = 7 then 125 else 93
def ahead : List Fr → Nx
  | [] => .value
  | f :: _ => if f.kind = 7 then .key else .value
def go (t : St) (m : Nat) (x : Nx) : St := { t with at_ := t.at_ + m, s := t.s.drop m, nx := x }
def skip (t : St) : St := { t with at_ := t.at_ + nb t.s, s := t.s.drop (nb t.s) }
def bgn (c : Nat) : Bool := decide (c = 110 ∨ c = 102 ∨ c = 116 ∨ c = 34 ∨ c = 91 ∨ c = 123 ∨ c = 45) || isd c
def word (t : St) (w : List Nat) (k : Int) : St ⊕ Res := if wd w t.s = w.length then .inl (leaf t w.length k 0 ⟨#[]⟩) else .inr (.err (t.at_ + wd w t.s) 70)
def text (t : St) : St ⊕ Res := if (Utf.unq t.s).2.2 ≠ 0 then .inr (.err t.at_ (Utf.unq t.s).2.2) else .inl (leaf t (Utf.unq t.s).2.1 5 0 (str (Utf.unq t.s).1))
def number (t : St) : St ⊕ Res :=
  if (scan t.s).2 = false then .inr (.err (t.at_ + (scan t.s).1) 70)
  else if fits t.s then .inl (leaf t (scan t.s).1 4 (nVal t.s) ⟨#[]⟩) else .inr (.err t.at_ 73)
/-- A value's first bytes: what they are. -/
def valueB (t : St) : St ⊕ Res :=
  if hd t.s = 110 then word t [110, 117, 108, 108] 1
  else if hd t.s = 102 then word t [102, 97, 108, 115, 101] 2
  else if hd t.s = 116 then word t [116, 114, 117, 101] 3
  else if hd t.s = 34 then text t
  else if hd t.s = 91 then .inl (opn t 6)
  else if hd t.s = 123 then .inl (opn t 7)
  else number t
def stepV (t : St) : St ⊕ Res :=
  if bgn (hd t.s) = false then .inr (.err t.at_ 70)
  else if 4000 ≤ cnt t.op t.root then .inr (.err t.at_ 5)
  else if 64 ≤ t.op.length then .inr (.err t.at_ 72)
  else valueB t
def stepP (t : St) : St ⊕ Res := match t.op with
  | [] => .inr (.err t.at_ 70)
  | f :: _ => if hd t.s = endOf f.kind then .inl (cls t) else .inl (go t 0 (ahead t.op))
def stepK (t : St) : St ⊕ Res := match t.op with
  | [] => .inr (.err t.at_ 70)
  | f :: r =>
    if hd t.s ≠ 34 then .inr (.err t.at_ 70)
    else if (Utf.unq t.s).2.2 ≠ 0 then .inr (.err t.at_ (Utf.unq t.s).2.2)
    else if str (Utf.unq t.s).1 ∈ f.had then .inr (.err t.at_ 71)
    else .inl { at_ := t.at_ + (Utf.unq t.s).2.1, s := t.s.drop (Utf.unq t.s).2.1, nx := .colon, key := str (Utf.unq t.s).1, op := { f with had := f.had ++ [str (Utf.unq t.s).1] } :: r, root := t.root }
def stepC (t : St) : St ⊕ Res := if hd t.s ≠ 58 then .inr (.err t.at_ 70) else .inl (go t 1 .value)
def stepB (t : St) : St ⊕ Res := match t.op with
  | [] => if t.s = [] then .inr (.ok t.root) else .inr (.err t.at_ 70)
  | f :: _ => if hd t.s = endOf f.kind then .inl (cls t) else if hd t.s ≠ 44 then .inr (.err t.at_ 70) else .inl (go t 1 (ahead t.op))
/-- One step, blanks being gone past. -/
def stepS (t : St) : St ⊕ Res := match t.nx with
  | .value => stepV t
  | .part => stepP t
  | .key => stepK t
  | .colon => stepC t
  | .behind => stepB t
def step (t : St) : St ⊕ Res := stepS (skip t)
inductive Steps : St → St → Prop
  | refl (t : St) : Steps t t
  | next {a b c : St} (h : step a = .inl b) (r : Steps b c) : Steps a c
theorem Steps.one {a b : St} (h : step a = .inl b) : Steps a b := .next h (.refl b)
theorem Steps.trans {a b c : St} (h : Steps a b) (k : Steps b c) : Steps a c := by
  induction h with
  | refl => exact k
  | next h _ ih => exact .next h (ih k)
/-- A reading's end. -/
def Ends (t : St) (r : Res) : Prop := ∃ u, Steps t u ∧ step u = .inr r
/-- So many steps at most. -/
def run : Nat → St → Option Res
  | 0, _ => none
  | n + 1, t => match step t with
    | .inl u => run n u
    | .inr r => some r
theorem run_ends : ∀ (n : Nat) (t : St) (r : Res), run n t = some r → Ends t r
  | 0, t, r, h => by cases h
  | n + 1, t, r, h => by
    unfold run at h
    cases hs : step t with
    | inl u =>
      rw [hs] at h
      obtain ⟨v, h1, h2⟩ := run_ends n u r h
      exact ⟨v, .next hs h1, h2⟩
    | inr q =>
      rw [hs] at h
      injection h with h
      subst h
      exact ⟨t, .refl t, hs⟩
theorem Ends.now {t : St} {r : Res} (h : step t = .inr r) : Ends t r := ⟨t, .refl t, h⟩
theorem Ends.after {a b : St} {r : Res} (h : Steps a b) (k : Ends b r) : Ends a r := by
  obtain ⟨u, h1, h2⟩ := k
  exact ⟨u, h.trans h1, h2⟩
theorem Ends.only {a : St} {r q : Res} (h : Ends a r) (k : Ends a q) : r = q := by
  obtain ⟨u, h1, h2⟩ := h
  induction h1 with
  | refl t =>
    obtain ⟨v, k1, k2⟩ := k
    cases k1 with
    | refl => rw [h2] at k2; injection k2
    | next h r => rw [h2] at h; cases h
  | next h r ih =>
    obtain ⟨v, k1, k2⟩ := k
    cases k1 with
    | refl => rw [h] at k2; cases k2
    | next h' r' =>
      rw [h] at h'
      injection h' with h'
      subst h'
      exact ih ⟨v, r', k2⟩ h2
def init (l : List Nat) : St := { at_ := 0, s := l, nx := .value, key := ⟨#[]⟩, op := [], root := .nil }
/-- What reading a text gives. -/
def Reads (l : List Nat) (r : Res) : Prop := if 1048576 < l.length then r = .err 0 5 else Ends (init l) r
theorem Reads.only {l : List Nat} {r q : Res} (h : Reads l r) (k : Reads l q) : r = q := by
  unfold Reads at h k
  split at h
  · rename_i h1; rw [if_pos h1] at k; rw [h, k]
  · rename_i h1; rw [if_neg h1] at k; exact h.only k
/-- Blanks that are gone past are gone past. -/
theorem skip_skip (t : St) : skip (skip t) = skip t := by
  unfold skip
  simp only [nb_idem]
  simp
theorem step_skip (t : St) : step (skip t) = step t := by unfold step; rw [skip_skip]
end Go.Proofs.YtgmdjofnkbaflaaGreatDoor.Jr

/- The program's reader: what it holds; single bytes, blanks, digits, numbers' bytes. -/
namespace Go.Proofs.YtgmdjofnkbaflaaGreatDoor
open Go.RowKit
set_option linter.unusedVariables false
set_option maxRecDepth 100000

/-- A reader: its text, where it stands, what comes next, a key, what is open, the nodes. -/
def RP (w : World) (g : Nat) (S : ByteArray) (a : Nat) (nx : Int) (y : ByteArray) (ov tv : Value) : Prop := Blk w g 62 [.string S, .int .i64 (a : Nat), .int .i64 nx, .string y, ov, tv]
section
variable {w w' : World} {g a : Nat} {S y : ByteArray} {nx : Int} {ov tv : Value}
theorem RP.lie (h : RP w g S a nx y ov tv) : w.cell? ⟨g, 0, none⟩ = some (.string S) ∧ w.cell? ⟨g, 1, none⟩ = some (.int .i64 (a : Nat)) ∧ w.cell? ⟨g, 2, none⟩ = some (.int .i64 nx) ∧ w.cell? ⟨g, 3, none⟩ = some (.string y) ∧ w.cell? ⟨g, 4, none⟩ = some ov ∧ w.cell? ⟨g, 5, none⟩ = some tv :=
  ⟨by have := Blk.cell h 0; simpa using this, by have := Blk.cell h 1; simpa using this, by have := Blk.cell h 2; simpa using this, by have := Blk.cell h 3; simpa using this, by have := Blk.cell h 4; simpa using this, by have := Blk.cell h 5; simpa using this⟩
theorem RP.later (h : RP w g S a nx y ov tv) (hb : Below w.heap.size w w') : RP w' g S a nx y ov tv := Blk.later h hb
theorem RP.touch {X : Nat → Prop} (h : RP w g S a nx y ov tv) (ht : Touch X w w') (hn : ¬ X g) : RP w' g S a nx y ov tv := Blk.touch h ht hn
theorem RP.putA (h : RP w g S a nx y ov tv) (b : Nat) : RP (w.setCell ⟨g, 1, none⟩ (.int .i64 (b : Nat))) g S b nx y ov tv := Blk.put h 1 _
theorem RP.putN (h : RP w g S a nx y ov tv) (m : Int) : RP (w.setCell ⟨g, 2, none⟩ (.int .i64 m)) g S a m y ov tv := Blk.put h 2 _
theorem RP.putK (h : RP w g S a nx y ov tv) (z : ByteArray) : RP (w.setCell ⟨g, 3, none⟩ (.string z)) g S a nx z ov tv := Blk.put h 3 _
theorem RP.putO (h : RP w g S a nx y ov tv) (v : Value) : RP (w.setCell ⟨g, 4, none⟩ v) g S a nx y v tv := Blk.put h 4 _
theorem RP.putT (h : RP w g S a nx y ov tv) (v : Value) : RP (w.setCell ⟨g, 5, none⟩ v) g S a nx y ov v := Blk.put h 5 _
theorem touchG (w : World) (g k : Nat) (v : Value) : Touch (fun i => i = g) w (w.setCell ⟨g, k, none⟩ v) := Touch.setCell (S := fun i => i = g) (p := ⟨g, k, none⟩) (Touch.refl _ _) rfl v
end
/-- The bytes that are left. -/
abbrev left (S : ByteArray) (a : Nat) : List Nat := (bl S).drop a
theorem left_len (S : ByteArray) (a : Nat) : (left S a).length = S.size - a := by rw [List.length_drop, bl_length]
theorem left_hd (S : ByteArray) (a : Nat) : Jr.hd (left S a) = (bl S).getD a 0 := by
  unfold Jr.hd left
  rw [List.getD_eq_getElem?_getD, List.getD_eq_getElem?_getD, List.getElem?_drop, Nat.add_zero]
theorem left_byte (S : ByteArray) (a : Nat) : ∀ x ∈ left S a, x < 256 := fun x hx => bl_byte S x (List.mem_of_mem_drop hx)
theorem hd_byte {l : List Nat} (h : ∀ x ∈ l, x < 256) : Jr.hd l < 256 := by
  cases l with
  | nil => simp
  | cons c t => exact h c (List.mem_cons_self ..)
theorem index_mem (l : List UInt8) (c : UInt8) : 0 ≤ Lib.indexByte l c ↔ c ∈ l := by
  induction l with
  | nil => simp [Lib.indexByte]
  | cons b l ih =>
    have := Lib.indexByte_ge l c
    unfold Lib.indexByte
    by_cases h : b = c
    · simp [h]
    · have h2 : (b == c) = false := by simpa using h
      rw [h2]
      simp only [Bool.false_eq_true, if_false, List.mem_cons]
      have h3 : ¬ c = b := fun e => h e.symm
      by_cases h4 : Lib.indexByte l c = -1
      · have h5 : ¬ 0 ≤ Lib.indexByte l c := by omega
        rw [ih] at h5
        simp [h4, h3, h5]
      · have h5 : 0 ≤ Lib.indexByte l c := by omega
        have h6 := ih.1 h5
        have h7 : (Lib.indexByte l c == -1) = false := by simpa using h4
        rw [h7]
        simp [h6]; omega
theorem index_bl (X : ByteArray) (c : Nat) (hc : c < 256) : (0 ≤ Lib.indexByte X.data.toList ((c : Int).toNat.toUInt8)) ↔ c ∈ bl X := by
  rw [index_mem]
  unfold bl
  rw [Int.toNat_natCast]
  constructor
  · intro h
    refine List.mem_map.2 ⟨_, h, ?_⟩
    simp; omega
  · intro h
    obtain ⟨b, hb, e⟩ := List.mem_map.1 h
    have : (c.toUInt8) = b := by
      apply UInt8.toNat_inj.1
      simp; omega
    rw [this]; exact hb

set_option maxHeartbeats 1000000 in
theorem jhere {w : World} {g a : Nat} {S y : ByteArray} {nx : Int} {ov tv : Value} (h : RP w g S a nx y ov tv) (ha : a ≤ S.size) (hm : S.size ≤ 1048576) (c : Nat) (hc : Jr.hd (left S a) = c) :
    Calls Tryz.prog 72 #[.pointer (some ⟨g, 0, none⟩)] w fun e w' => e = .returned (.int .u8 (c : Nat)) ∧ ∃ m, w' = w.drewN m := by
  obtain ⟨c0, c1, _⟩ := h.lie
  rw [left_hd] at hc
  by_cases hlt : a < S.size
  · have h1 : (a : Int) < S.size := by omega
    have h2 : ((a : Int) == S.size) = false := by simp; omega
    have hx := bl_at S a hlt
    rw [hc] at hx
    clear hc h ha
    go_enter Tryz.func72, Tryz.ntmps72
    go_wp2_with fail
    go_quiet (fail)
    go_wp2_with fail
    go_quiet (fail)
    go_wp2_with fail
    go_ret
    exact ⟨rfl, _, World.drewN_drewN ..⟩
  · have h2 : ((a : Int) == S.size) = true := by simp; omega
    obtain rfl : 0 = c := by
      rw [← hc, List.getD_eq_getElem?_getD, List.getElem?_eq_none (by rw [bl_length]; omega)]; rfl
    clear hc h
    go_enter Tryz.func72, Tryz.ntmps72
    go_wp2_with fail
    go_quiet (fail)
    go_wp2_with fail
    go_ret
    exact ⟨rfl, _, rfl⟩
set_option maxHeartbeats 1000000 in
theorem jstands {w : World} {g a : Nat} {S y : ByteArray} {nx : Int} {ov tv : Value} (h : RP w g S a nx y ov tv) (ha : a ≤ S.size) (hm : S.size ≤ 1048576) (X : ByteArray) (b : Bool) (hb : b = true ↔ Jr.hd (left S a) ∈ bl X) :
    Calls Tryz.prog 71 #[.pointer (some ⟨g, 0, none⟩), .string X] w fun e w' => e = .returned (.bool b) ∧ ∃ m, w' = w.drewN m := by
  obtain ⟨c, hc⟩ : ∃ c, Jr.hd (left S a) = c := ⟨_, rfl⟩
  have hc256 : c < 256 := by rw [← hc]; exact hd_byte (left_byte S a)
  have C1 := Lib.hid (jhere h ha hm c hc)
  have C2 := Lib.hid (fun w => Tryz.strings_IndexByte X (c : Int) w)
  obtain ⟨q, hq⟩ : ∃ q, Lib.indexByte X.data.toList (c : Int).toNat.toUInt8 = q := ⟨_, rfl⟩
  have hi := index_bl X c hc256
  rw [hq] at hi
  have C2 := Lib.hid (fun w => by have := C2.out w; rw [hq] at this; exact this)
  rw [hc, ← hi] at hb
  obtain rfl : b = decide (0 ≤ q) := by rw [Bool.eq_iff_iff, decide_eq_true_eq]; exact hb
  clear h ha hb hi hq hc
  go_enter Tryz.func71, Tryz.ntmps71
  go_wp2_with fail
  ((with_reducible refine (C1.out).mono ?_); rintro e w2 ⟨rfl, m, rfl⟩)
  go_wp2_with fail
  ((with_reducible refine (C2.out _).mono ?_); rintro e w2 ⟨rfl, rfl⟩)
  go_wp2_with fail
  go_ret
  exact ⟨rfl, _, rfl⟩
theorem RP.drew {w : World} {g a : Nat} {S y : ByteArray} {nx : Int} {ov tv : Value} (h : RP w g S a nx y ov tv) (m : Nat) : RP (w.drewN m) g S a nx y ov tv := h
theorem touchD (w : World) (X : Nat → Prop) (m : Nat) : Touch X w (w.drewN m) := ⟨rfl, rfl, rfl, Nat.le_refl _, fun _ _ _ => rfl⟩
/-- A byte at hand is within the text. -/
theorem hd_in {S : ByteArray} {a : Nat} (h : Jr.hd (left S a) ≠ 0) : a < S.size := by
  rcases Nat.lt_or_ge a S.size with h1 | h1
  · exact h1
  · exfalso
    apply h
    unfold left
    rw [List.drop_eq_nil_of_le (by rw [bl_length]; exact h1)]
    rfl
/-- What a call leaves of a reader that has gone on. -/
def Went (w w' : World) (g : Nat) (S : ByteArray) (a : Nat) (nx : Int) (y : ByteArray) (ov tv : Value) : Prop := RP w' g S a nx y ov tv ∧ Touch (fun i => i = g) w w'
theorem Went.then {w w1 w2 : World} {g a b : Nat} {S y z : ByteArray} {nx mx : Int} {ov tv ou tu : Value} (h : Went w w1 g S a nx y ov tv) (k : Went w1 w2 g S b mx z ou tu) : Went w w2 g S b mx z ou tu := ⟨k.1, h.2.trans k.2 (fun i hi => .inl hi)⟩
set_option maxHeartbeats 1000000 in
theorem jskipOne {w : World} {g a : Nat} {S y : ByteArray} {nx : Int} {ov tv : Value} (h : RP w g S a nx y ov tv) (ha : a ≤ S.size) (hm : S.size ≤ 1048576) (X : ByteArray) (hX : 0 ∉ bl X) (b : Bool) (hb : b = true ↔ Jr.hd (left S a) ∈ bl X) :
    Calls Tryz.prog 151 #[.pointer (some ⟨g, 0, none⟩), .string X] w fun e w' => e = .returned (.bool b) ∧ Went w w' g S (a + b.toNat) nx y ov tv ∧ (b = true → a < S.size) := by
  have C1 := Lib.hid (jstands h ha hm X b hb)
  obtain ⟨c0, c1, _⟩ := h.lie
  have H := Lib.hid h
  cases b with
  | true =>
    have hlt := hd_in (S := S) (a := a) (fun e => hX (e ▸ hb.1 rfl))
    have HLT := Lib.hid hlt
    have f1 := fun n => Blk.frozen (h.drew n) 1
    clear h hb hX
    go_enter Tryz.func151, Tryz.ntmps151
    go_wp2_with fail
    ((with_reducible refine (C1.out).mono ?_); rintro e w2 ⟨rfl, m, rfl⟩)
    have f1 := f1 m
    go_wp2_with fail
    go_ret
    exact ⟨rfl, ⟨(H.out.drew m).putA (a + 1), (touchD w _ m).trans (touchG _ g 1 _) (fun i hi => .inl hi)⟩, fun _ => HLT.out⟩
  | false =>
    clear h hb hX
    go_enter Tryz.func151, Tryz.ntmps151
    go_wp2_with fail
    ((with_reducible refine (C1.out).mono ?_); rintro e w2 ⟨rfl, m, rfl⟩)
    go_wp2_with fail
    go_ret
    exact ⟨rfl, ⟨H.out.drew m, touchD w _ m⟩, fun h => Bool.noConfusion h⟩
def digitsS : ByteArray := ⟨#[48, 49, 50, 51, 52, 53, 54, 55, 56, 57]⟩
def blanksS : ByteArray := ⟨#[32, 9, 10, 13]⟩
theorem left_cons {S : ByteArray} {a : Nat} (h : a < S.size) : left S a = Jr.hd (left S a) :: left S (a + 1) := by
  have h2 : a < (bl S).length := by rw [bl_length]; exact h
  unfold left
  rw [List.drop_eq_getElem_cons h2]
  rfl
theorem left_end {S : ByteArray} {a : Nat} (h : ¬ a < S.size) : left S a = [] := by
  unfold left
  rw [List.drop_eq_nil_of_le (by rw [bl_length]; omega)]
theorem left_drop (S : ByteArray) (a n : Nat) : (left S a).drop n = left S (a + n) := by unfold left; rw [List.drop_drop]
theorem nd_left {S : ByteArray} {a : Nat} (h : Jr.isd (Jr.hd (left S a)) = true) : Jr.nd (left S a) = Jr.nd (left S (a + 1)) + 1 := by
  have hlt := hd_in (S := S) (a := a) (fun e => by rw [e] at h; simp [Jr.isd] at h)
  rw [left_cons hlt]
  have : Jr.isd (Jr.hd (left S a)) = true := h
  simp only [Jr.nd, this, if_true]
theorem nd_none {S : ByteArray} {a : Nat} (h : ¬ Jr.isd (Jr.hd (left S a)) = true) : Jr.nd (left S a) = 0 := by
  cases hl : left S a with
  | nil => rfl
  | cons c t => rw [hl] at h; simp only [Jr.hd_cons] at h; simp [Jr.nd, h]
theorem nb_left {S : ByteArray} {a : Nat} (h : Jr.blank (Jr.hd (left S a)) = true) : Jr.nb (left S a) = Jr.nb (left S (a + 1)) + 1 := by
  have hlt := hd_in (S := S) (a := a) (fun e => by rw [e] at h; simp [Jr.blank] at h)
  rw [left_cons hlt]
  have : Jr.blank (Jr.hd (left S a)) = true := h
  simp only [Jr.nb, this, if_true]
theorem nb_none {S : ByteArray} {a : Nat} (h : ¬ Jr.blank (Jr.hd (left S a)) = true) : Jr.nb (left S a) = 0 := Jr.nb_zero (by simpa using h)
theorem isd_mem (c : Nat) : Jr.isd c = true ↔ c ∈ bl digitsS := by
  have : bl digitsS = [48, 49, 50, 51, 52, 53, 54, 55, 56, 57] := rfl
  rw [this]
  simp [Jr.isd]; omega
theorem blank_mem (c : Nat) : Jr.blank c = true ↔ c ∈ bl blanksS := by
  have : bl blanksS = [32, 9, 10, 13] := rfl
  rw [this]
  simp [Jr.blank]
set_option maxHeartbeats 1000000 in
theorem jskipDigits {w : World} {g a : Nat} {S y : ByteArray} {nx : Int} {ov tv : Value} (h : RP w g S a nx y ov tv) (ha : a ≤ S.size) (hm : S.size ≤ 1048576) (n : Nat) (hn : Jr.nd (left S a) = n) :
    Calls Tryz.prog 152 #[.pointer (some ⟨g, 0, none⟩)] w fun e w' => e = .returned (.bool (decide (0 < n))) ∧ Went w w' g S (a + n) nx y ov tv ∧ a + n ≤ S.size := by
  obtain ⟨c0, c1, _⟩ := h.lie
  have H := Lib.hid h
  have HN := Lib.hid hn
  clear h hn
  go_enter Tryz.func152, Tryz.ntmps152
  go_wp2_with fail
  go_loopw [] (fun wx => ∃ b : Nat, a ≤ b ∧ b ≤ S.size ∧ b ≤ a + n ∧ Hid (Went w wx g S b nx y ov tv ∧ b + Jr.nd (left S b) = a + n)) (fun wx => S.size - (match wx.cell? ⟨g, 1, none⟩ with | some (.int _ z) => z.toNat | _ => 0))
  case atStart => exact ⟨a, by omega, by omega, by omega, Lib.hid ⟨⟨H.out, Touch.refl _ _⟩, by rw [HN.out]⟩⟩
  case round =>
    obtain ⟨b, h1, h2, h3, HW⟩ := hrel
    obtain ⟨_, d1, _⟩ := HW.out.1.1.lie
    by_cases hd : Jr.isd (Jr.hd (left S b)) = true
    · have C := Lib.hid (jskipOne HW.out.1.1 h2 hm digitsS (by decide) true ⟨fun _ => (isd_mem _).1 hd, fun _ => rfl⟩)
      have HD := Lib.hid (nd_left hd)
      have hlt := hd_in (S := S) (a := b) (fun e => by rw [e] at hd; simp [Jr.isd] at hd)
      unfold digitsS at C
      clear hd
      go_wp2_with fail
      ((with_reducible refine (C.out).mono ?_); rintro e w2 ⟨rfl, hw, _⟩)
      have HW2 := Lib.hid (HW.out.1.then hw)
      obtain ⟨_, d2, _⟩ := hw.1.lie
      simp only [Bool.toNat_true] at d2 HW2
      have hq := HW.out.2
      rw [HD.out] at hq
      clear hw
      go_wp2_with fail
      go_roundw
      case rel => exact ⟨b + 1, by omega, by omega, by omega, Lib.hid ⟨HW2.out, by omega⟩⟩
      case measure =>
        rw [d1, d2]
        simp
        omega
    · have C := Lib.hid (jskipOne HW.out.1.1 h2 hm digitsS (by decide) false ⟨fun h => Bool.noConfusion h, fun h => absurd ((isd_mem _).2 h) hd⟩)
      have HD := Lib.hid (nd_none hd)
      unfold digitsS at C
      have hq := HW.out.2
      rw [HD.out] at hq
      obtain rfl : b = a + n := by omega
      clear hd
      go_wp2_with fail
      ((with_reducible refine (C.out).mono ?_); rintro e w2 ⟨rfl, hw, _⟩)
      have HW2 := Lib.hid (HW.out.1.then hw)
      obtain ⟨_, d2, _⟩ := hw.1.lie
      simp only [Bool.toNat_false, Nat.add_zero] at d2 HW2
      clear hw
      go_wp2_with fail
      go_ret
      exact ⟨congrArg (fun z => Ending.returned (Value.bool z)) (decide_eq_decide.2 (by omega)), HW2.out, h2⟩
set_option maxHeartbeats 1000000 in
theorem jskipBlanks {w : World} {g a : Nat} {S y : ByteArray} {nx : Int} {ov tv : Value} (h : RP w g S a nx y ov tv) (ha : a ≤ S.size) (hm : S.size ≤ 1048576) (n : Nat) (hn : Jr.nb (left S a) = n) :
    Calls Tryz.prog 33 #[.pointer (some ⟨g, 0, none⟩)] w fun e w' => e = .returned (.tuple #[]) ∧ Went w w' g S (a + n) nx y ov tv ∧ a + n ≤ S.size := by
  have H := Lib.hid h
  have HN := Lib.hid hn
  clear h hn
  go_enter Tryz.func33, Tryz.ntmps33
  go_wp2_with fail
  go_loopw [] (fun wx => ∃ b : Nat, a ≤ b ∧ b ≤ S.size ∧ b ≤ a + n ∧ Hid (Went w wx g S b nx y ov tv ∧ b + Jr.nb (left S b) = a + n)) (fun wx => S.size - (match wx.cell? ⟨g, 1, none⟩ with | some (.int _ z) => z.toNat | _ => 0))
  case atStart => exact ⟨a, by omega, by omega, by omega, Lib.hid ⟨⟨H.out, Touch.refl _ _⟩, by rw [HN.out]⟩⟩
  case round =>
    obtain ⟨b, h1, h2, h3, HW⟩ := hrel
    obtain ⟨_, d1, _⟩ := HW.out.1.1.lie
    by_cases hd : Jr.blank (Jr.hd (left S b)) = true
    · have C := Lib.hid (jstands HW.out.1.1 h2 hm blanksS true ⟨fun _ => (blank_mem _).1 hd, fun _ => rfl⟩)
      have HD := Lib.hid (nb_left hd)
      have hlt := hd_in (S := S) (a := b) (fun e => by rw [e] at hd; simp [Jr.blank] at hd)
      unfold blanksS at C
      have f1 := fun n => Blk.frozen (HW.out.1.1.drew n) 1
      clear hd
      go_wp2_with fail
      ((with_reducible refine (C.out).mono ?_); rintro e w2 ⟨rfl, m, rfl⟩)
      have f1 := f1 m
      have HW2 : Hid (Went wr ((wr.drewN m).setCell ⟨g, 1, none⟩ (.int .i64 ((b + 1 : Nat) : Int))) g S (b + 1) nx y ov tv) := Lib.hid ⟨(HW.out.1.1.drew m).putA (b + 1), (touchD wr _ m).trans (touchG _ g 1 _) (fun i hi => .inl hi)⟩
      obtain ⟨_, d2, _⟩ := HW2.out.1.lie
      simp only [Int.natCast_add, Int.natCast_one] at d2
      have hq := HW.out.2
      rw [HD.out] at hq
      go_wp2_with fail
      go_roundw
      case rel => exact ⟨b + 1, by omega, by omega, by omega, Lib.hid ⟨HW.out.1.then HW2.out, by omega⟩⟩
      case measure =>
        rw [d1, d2]
        simp
        omega
    · have C := Lib.hid (jstands HW.out.1.1 h2 hm blanksS false ⟨fun h => Bool.noConfusion h, fun h => absurd ((blank_mem _).2 h) hd⟩)
      have HD := Lib.hid (nb_none hd)
      unfold blanksS at C
      have hq := HW.out.2
      rw [HD.out] at hq
      obtain rfl : b = a + n := by omega
      clear hd
      go_wp2_with fail
      ((with_reducible refine (C.out).mono ?_); rintro e w2 ⟨rfl, m, rfl⟩)
      have HW2 := Lib.hid (show Went w (wr.drewN m) g S (a + n) nx y ov tv from ⟨HW.out.1.1.drew m, HW.out.1.2.trans (touchD wr _ m) (fun i hi => .inl hi)⟩)
      go_wp2_with fail
      go_end0
      exact ⟨rfl, HW2.out, h2⟩
theorem scan_1 {s : List Nat} (h : Jr.nP2 s = Jr.nP1 s) : Jr.scan s = (Jr.nP1 s, false) := by unfold Jr.scan; rw [if_pos h]
theorem scan_2 {s : List Nat} (h : Jr.nP2 s ≠ Jr.nP1 s) (h2 : Jr.nP3 s = Jr.nP2 s + 1) : Jr.scan s = (Jr.nP3 s, false) := by unfold Jr.scan; rw [if_neg h, if_pos h2]
theorem scan_3 {s : List Nat} (h : Jr.nP2 s ≠ Jr.nP1 s) (h2 : Jr.nP3 s ≠ Jr.nP2 s + 1) (he : Jr.isE (s.drop (Jr.nP3 s))) (h5 : Jr.nP5 s = Jr.nP4 s) : Jr.scan s = (Jr.nP4 s, false) := by unfold Jr.scan; rw [if_neg h, if_neg h2, if_pos ⟨he, h5⟩]
theorem scan_4 {s : List Nat} (h : Jr.nP2 s ≠ Jr.nP1 s) (h2 : Jr.nP3 s ≠ Jr.nP2 s + 1) (h3 : ¬ (Jr.isE (s.drop (Jr.nP3 s)) ∧ Jr.nP5 s = Jr.nP4 s)) : Jr.scan s = (Jr.nP5 s, true) := by unfold Jr.scan; rw [if_neg h, if_neg h2, if_neg h3]
set_option maxHeartbeats 4000000 in
theorem jskipNumber {w : World} {g a : Nat} {S y : ByteArray} {nx : Int} {ov tv : Value} (h : RP w g S a nx y ov tv) (ha : a ≤ S.size) (hm : S.size ≤ 1048576) (k : Nat) (b : Bool) (hk : Jr.scan (left S a) = (k, b)) :
    Calls Tryz.prog 115 #[.pointer (some ⟨g, 0, none⟩)] w fun e w' => e = .returned (.bool b) ∧ Went w w' g S (a + k) nx y ov tv ∧ a + k ≤ S.size := by
  have HK := Lib.hid hk
  have m1 : ∀ c, c ∈ bl ⟨#[45]⟩ ↔ c = 45 := by intro c; show c ∈ [45] ↔ _; simp
  have m2 : ∀ c, c ∈ bl ⟨#[48]⟩ ↔ c = 48 := by intro c; show c ∈ [48] ↔ _; simp
  have m3 : ∀ c, c ∈ bl ⟨#[46]⟩ ↔ c = 46 := by intro c; show c ∈ [46] ↔ _; simp
  have m4 : ∀ c, c ∈ bl ⟨#[101, 69]⟩ ↔ c = 101 ∨ c = 69 := by intro c; show c ∈ [101, 69] ↔ _; simp
  have m5 : ∀ c, c ∈ bl ⟨#[43, 45]⟩ ↔ c = 43 ∨ c = 45 := by intro c; show c ∈ [43, 45] ↔ _; simp
  obtain ⟨s, hs⟩ : ∃ s, left S a = s := ⟨_, rfl⟩
  have hL : ∀ n, left S (a + n) = s.drop n := fun n => by rw [← hs, left_drop]
  obtain ⟨p1, hp1⟩ : ∃ p, Jr.nP1 s = p := ⟨_, rfl⟩
  obtain ⟨p2, hp2⟩ : ∃ p, Jr.nP2 s = p := ⟨_, rfl⟩
  obtain ⟨p3, hp3⟩ : ∃ p, Jr.nP3 s = p := ⟨_, rfl⟩
  obtain ⟨p4, hp4⟩ : ∃ p, Jr.nP4 s = p := ⟨_, rfl⟩
  obtain ⟨p5, hp5⟩ : ∃ p, Jr.nP5 s = p := ⟨_, rfl⟩
  have e1 : p1 = (decide (Jr.hd s = 45)).toNat := by rw [← hp1]; unfold Jr.nP1 Jr.nSg; by_cases h : Jr.hd s = 45 <;> simp [h]
  have e2 : p2 = p1 + Jr.nIn (s.drop p1) := by rw [← hp2, ← hp1]; rfl
  have e3 : p3 = p2 + Jr.nFr (s.drop p2) := by rw [← hp3, ← hp2]; rfl
  have e4 : p4 = p3 + Jr.nEh (s.drop p3) := by rw [← hp4, ← hp3]; rfl
  have e5 : p5 = p4 + Jr.nEd (s.drop p3) := by rw [← hp5, ← hp4, ← hp3]; rfl
  have s1 := @scan_1 s
  have s2 := @scan_2 s
  have s3 := @scan_3 s
  have s4 := @scan_4 s
  rw [hp1, hp2] at s1 s2 s3 s4
  rw [hp3] at s2 s3 s4
  rw [hp5] at s3 s4
  rw [hp4] at s3 s4
  rw [hs] at HK
  have S1 := Lib.hid s1
  have S2 := Lib.hid s2
  have S3 := Lib.hid s3
  have S4 := Lib.hid s4
  have E2 := Lib.hid e2
  have E3 := Lib.hid e3
  have E4 := Lib.hid e4
  have E5 := Lib.hid e5
  have HL := Lib.hid hL
  have C1 := Lib.hid (jskipOne h ha hm ⟨#[45]⟩ (by decide) (decide (Jr.hd s = 45)) (by rw [decide_eq_true_eq, hs, m1]))
  rw [← e1] at C1
  have M2 := Lib.hid m2
  have M3 := Lib.hid m3
  have M4 := Lib.hid m4
  have M5 := Lib.hid m5
  have HA := Lib.hid ha
  have LE := Lib.hid (fun (b : Nat) (hb : b ≤ S.size) (hh : Jr.hd (left S b) ≠ 0) => hd_in hh)
  have P1 : Hid (p1 = 0 ∨ a < S.size) := Lib.hid (by
    by_cases h45 : Jr.hd s = 45
    · right; exact hd_in (by rw [hs, h45]; decide)
    · left; rw [e1]; simp [h45])
  have P1L : Hid (p1 ≤ 1) := Lib.hid (by rw [e1]; cases decide (Jr.hd s = 45) <;> simp)
  clear h hk hL hp1 hp2 hp3 hp4 hp5 e1 e2 e3 e4 e5 s1 s2 s3 s4 m1 m2 m3 m4 m5 hs
  go_enter Tryz.func115, Tryz.ntmps115
  go_wp2_with fail
  ((with_reducible refine (C1.out).mono ?_); rintro e w1 ⟨rfl, hw, _⟩)
  have HW1 := Lib.hid hw
  have HA1 : Hid (a + p1 ≤ S.size) := Lib.hid (by have := P1.out; have := P1L.out; have := HA.out; omega)
  clear hw C1
  by_cases z : Jr.hd (left S (a + p1)) = 48
  case' pos =>
    have C2 := Lib.hid (jskipOne HW1.out.1 HA1.out hm ⟨#[48]⟩ (by decide) true (by rw [M2.out]; simp [z]))
    have hp2 : Hid (p2 = p1 + 1) := Lib.hid (by have := E2.out; rw [← HL.out] at this; unfold Jr.nIn at this; rw [if_pos z] at this; exact this)
    clear z
    go_wp2_with fail
    ((with_reducible refine (C2.out).mono ?_); rintro e w2 ⟨rfl, hw, hlt⟩)
    have HW2 : Hid (Went w w2 g S (a + p2) nx y ov tv) := Lib.hid (by rw [hp2.out, ← Nat.add_assoc]; exact HW1.out.then hw)
    have HA2 : Hid (a + p2 ≤ S.size) := Lib.hid (by have := hlt (by trivial); have := hp2.out; omega)
    have HP2 : Hid (p2 ≠ p1) := Lib.hid (by have := hp2.out; omega)
    clear hw hlt C2 hp2
  case' neg =>
    have C2 := Lib.hid (jskipOne HW1.out.1 HA1.out hm ⟨#[48]⟩ (by decide) false (by rw [M2.out]; simp [z]))
    obtain ⟨n, hn⟩ : ∃ n, Jr.nd (left S (a + p1)) = n := ⟨_, rfl⟩
    have hp2 : Hid (p2 = p1 + n) := Lib.hid (by have := E2.out; rw [← HL.out] at this; unfold Jr.nIn at this; rw [if_neg z, hn] at this; exact this)
    have HN := Lib.hid hn
    clear z hn
    go_wp2_with fail
    ((with_reducible refine (C2.out).mono ?_); rintro e wa ⟨rfl, hw, hlt⟩)
    have C3 := Lib.hid (jskipDigits hw.1 (by simpa using HA1.out) hm n (by simpa using HN.out))
    have HWA := Lib.hid (HW1.out.then hw)
    clear hw hlt C2
    go_wp2_with fail
    ((with_reducible refine (C3.out).mono ?_); rintro e w2 ⟨rfl, hw, hle⟩)
    have HW2 : Hid (Went w w2 g S (a + p2) nx y ov tv) := Lib.hid (by
      have := HWA.out.then hw
      rw [Bool.toNat_false, Nat.add_zero] at this
      rw [hp2.out, ← Nat.add_assoc]; exact this)
    have HA2 : Hid (a + p2 ≤ S.size) := Lib.hid (by rw [Bool.toNat_false, Nat.add_zero] at hle; rw [hp2.out, ← Nat.add_assoc]; exact hle)
    clear hw hle C3
    by_cases h0 : n = 0
    case' pos =>
      have hlt : ¬ 0 < n := by omega
      have HR := Lib.hid (S1.out (by have := hp2.out; omega))
      have HP : Hid (p2 = p1) := Lib.hid (by have := hp2.out; omega)
      clear h0
      go_wp2_with fail
      go_ret
      have h1 := HR.out
      rw [HK.out] at h1
      have e1 := congrArg Prod.fst h1
      have e2 := congrArg Prod.snd h1
      simp only at e1 e2
      subst e1 e2
      exact ⟨rfl, by have := HW2.out; rw [HP.out] at this; exact this, HA1.out⟩
    have hlt : 0 < n := by omega
    have HP2 : Hid (p2 ≠ p1) := Lib.hid (by have := hp2.out; omega)
    clear h0 hp2 HN
  all_goals
    have hz : Jr.hd (left S (a + p2)) = 46 ∨ ¬ Jr.hd (left S (a + p2)) = 46 := Classical.em _
    rcases hz with z | z
    case' inl =>
      have C2 := Lib.hid (jskipOne HW2.out.1 HA2.out hm ⟨#[46]⟩ (by decide) true (by rw [M3.out]; simp [z]))
      obtain ⟨n, hn⟩ : ∃ n, Jr.nd (left S (a + p2 + 1)) = n := ⟨_, rfl⟩
      have hp3 : Hid (p3 = p2 + (1 + n)) := Lib.hid (by
        have := E3.out
        rw [← HL.out] at this
        unfold Jr.nFr at this
        rw [if_pos z, left_drop, hn] at this
        exact this)
      have HN := Lib.hid hn
      clear z hn
      go_wp2_with fail
      ((with_reducible refine (C2.out).mono ?_); rintro e wb ⟨rfl, hw, hlt⟩)
      have hlt := hlt (by trivial)
      have C3 := Lib.hid (jskipDigits hw.1 (by simp; omega) hm n (by simpa using HN.out))
      have HWB := Lib.hid (HW2.out.then hw)
      clear hw hlt C2
      go_wp2_with fail
      ((with_reducible refine (C3.out).mono ?_); rintro e w3 ⟨rfl, hw, hle⟩)
      have HW3 : Hid (Went w w3 g S (a + p3) nx y ov tv) := Lib.hid (by
        have := HWB.out.then hw
        rw [Bool.toNat_true] at this
        rw [hp3.out, show a + (p2 + (1 + n)) = a + p2 + 1 + n by omega]; exact this)
      have HA3 : Hid (a + p3 ≤ S.size) := Lib.hid (by rw [Bool.toNat_true] at hle; have := hp3.out; omega)
      clear hw hle C3
      by_cases h0 : n = 0
      case' pos =>
        have hlt : ¬ 0 < n := by omega
        have HR := Lib.hid (S2.out HP2.out (by have := hp3.out; omega))
        clear h0
        go_wp2_with fail
        go_ret
        have h1 := HR.out
        rw [HK.out] at h1
        have e1 := congrArg Prod.fst h1
        have e2 := congrArg Prod.snd h1
        simp only at e1 e2
        subst e1 e2
        exact ⟨rfl, HW3.out, HA3.out⟩
      have hlt : 0 < n := by omega
      have HP3 : Hid (p3 ≠ p2 + 1) := Lib.hid (by have := hp3.out; omega)
      clear h0 hp3 HN
    case' inr =>
      have C2 := Lib.hid (jskipOne HW2.out.1 HA2.out hm ⟨#[46]⟩ (by decide) false (by rw [M3.out]; simp [z]))
      have hp3 : Hid (p3 = p2) := Lib.hid (by
        have := E3.out
        rw [← HL.out] at this
        unfold Jr.nFr at this
        rw [if_neg z] at this
        exact this)
      clear z
      go_wp2_with fail
      ((with_reducible refine (C2.out).mono ?_); rintro e w3 ⟨rfl, hw, hlt⟩)
      have HW3 : Hid (Went w w3 g S (a + p3) nx y ov tv) := Lib.hid (by
        have := HW2.out.then hw
        rw [Bool.toNat_false, Nat.add_zero] at this
        rw [hp3.out]; exact this)
      have HA3 : Hid (a + p3 ≤ S.size) := Lib.hid (by have := HA2.out; rw [hp3.out]; exact this)
      have HP3 : Hid (p3 ≠ p2 + 1) := Lib.hid (by have := hp3.out; omega)
      clear hw hlt C2 hp3
  all_goals
    have hz : (Jr.hd (left S (a + p3)) = 101 ∨ Jr.hd (left S (a + p3)) = 69) ∨ ¬ (Jr.hd (left S (a + p3)) = 101 ∨ Jr.hd (left S (a + p3)) = 69) := Classical.em _
    rcases hz with z | z
    case' inr =>
      have C2 := Lib.hid (jskipOne HW3.out.1 HA3.out hm ⟨#[101, 69]⟩ (by decide) false (by rw [M4.out]; simp only [z, iff_false]; decide))
      have hp5 : Hid (p5 = p3) := Lib.hid (by
        have h4 := E4.out
        have h5 := E5.out
        unfold Jr.nEh at h4
        unfold Jr.nEd at h5
        rw [← HL.out, if_neg (show ¬ Jr.isE (left S (a + p3)) from z)] at h4 h5
        omega)
      have HR := Lib.hid (S4.out HP2.out HP3.out (fun h => z (by have := h.1; rw [← HL.out] at this; exact this)))
      clear z
      go_wp2_with fail
      ((with_reducible refine (C2.out).mono ?_); rintro e w4 ⟨rfl, hw, hlt⟩)
      have HW4 := Lib.hid (HW3.out.then hw)
      clear hw hlt
      go_wp2_with fail
      go_ret
      have h1 := HR.out
      rw [HK.out] at h1
      have e1 := congrArg Prod.fst h1
      have e2 := congrArg Prod.snd h1
      simp only at e1 e2
      subst e1 e2
      refine ⟨rfl, ?_, by rw [hp5.out]; exact HA3.out⟩
      have := HW4.out
      rw [Bool.toNat_false, Nat.add_zero] at this
      rw [hp5.out]; exact this
    case' inl =>
      have C2 := Lib.hid (jskipOne HW3.out.1 HA3.out hm ⟨#[101, 69]⟩ (by decide) true (by rw [M4.out]; simp only [z]))
      obtain ⟨pm, hpm⟩ : ∃ b, decide (Jr.hd (left S (a + p3 + 1)) = 43 ∨ Jr.hd (left S (a + p3 + 1)) = 45) = b := ⟨_, rfl⟩
      have hp4 : Hid (p4 = p3 + 1 + pm.toNat) := Lib.hid (by
        have := E4.out
        unfold Jr.nEh Jr.nPm at this
        rw [← HL.out, if_pos (show Jr.isE (left S (a + p3)) from z), left_drop] at this
        rw [this, ← hpm]
        by_cases h : Jr.hd (left S (a + p3 + 1)) = 43 ∨ Jr.hd (left S (a + p3 + 1)) = 45
        · rw [if_pos h]; simp [h]
        · rw [if_neg h]; simp [h])
      obtain ⟨n, hn⟩ : ∃ n, Jr.nd (left S (a + p4)) = n := ⟨_, rfl⟩
      have hp5 : Hid (p5 = p4 + n) := Lib.hid (by
        have h5 := E5.out
        have h4 := E4.out
        unfold Jr.nEd at h5
        rw [← HL.out, if_pos (show Jr.isE (left S (a + p3)) from z), left_drop] at h5
        rw [← HL.out] at h4
        rw [h5, ← hn, h4, ← Nat.add_assoc])
      have HZ := Lib.hid (show Jr.isE (s.drop p3) by rw [← HL.out]; exact z)
      have HPM := Lib.hid hpm
      have HN := Lib.hid hn
      clear z hpm hn
      go_wp2_with fail
      ((with_reducible refine (C2.out).mono ?_); rintro e wc ⟨rfl, hw, hlt⟩)
      have hlt := hlt (by trivial)
      have HWC := Lib.hid (HW3.out.then hw)
      have HLT := Lib.hid hlt
      have C3 := Lib.hid (jskipOne hw.1 (by simp; omega) hm ⟨#[43, 45]⟩ (by decide) pm (by rw [← HPM.out, decide_eq_true_eq, M5.out]; exact Iff.rfl))
      clear hw hlt C2
      go_wp2_with fail
      ((with_reducible refine (C3.out).mono ?_); rintro e wd ⟨rfl, hw, hlt⟩)
      have HAD : Hid (a + p4 ≤ S.size) := Lib.hid (by
        have := hp4.out
        have h1 := HLT.out
        cases pm with
        | false => rw [Bool.toNat_false] at this; omega
        | true => have := hlt rfl; rw [Bool.toNat_true] at *; omega)
      have HWD : Hid (Went w wd g S (a + p4) nx y ov tv) := Lib.hid (by
        have := HWC.out.then hw
        rw [Bool.toNat_true] at this
        rw [hp4.out, show a + (p3 + 1 + pm.toNat) = a + p3 + 1 + pm.toNat by omega]; exact this)
      clear hw hlt C3
      have C4 := Lib.hid (jskipDigits HWD.out.1 HAD.out hm n HN.out)
      go_wp2_with fail
      ((with_reducible refine (C4.out).mono ?_); rintro e we ⟨rfl, hw, hle⟩)
      have HWE := Lib.hid (HWD.out.then hw)
      clear hw C4
      go_wp2_with fail
      go_ret
      by_cases h0 : 0 < n
      · have h1 := S4.out HP2.out HP3.out (fun h => by have := h.2; have := hp5.out; omega)
        rw [HK.out] at h1
        have e1 := congrArg Prod.fst h1
        have e2 := congrArg Prod.snd h1
        simp only at e1 e2
        subst e1 e2
        refine ⟨congrArg (fun z => Ending.returned (Value.bool z)) (decide_eq_true h0), ?_, by have := hp5.out; omega⟩
        rw [hp5.out, ← Nat.add_assoc]; exact HWE.out
      · have h1 := S3.out HP2.out HP3.out HZ.out (by have := hp5.out; omega)
        rw [HK.out] at h1
        have e1 := congrArg Prod.fst h1
        have e2 := congrArg Prod.snd h1
        simp only at e1 e2
        subst e1 e2
        refine ⟨congrArg (fun z => Ending.returned (Value.bool z)) (decide_eq_false h0), ?_, HAD.out⟩
        obtain rfl : n = 0 := by omega
        exact HWE.out
end Go.Proofs.YtgmdjofnkbaflaaGreatDoor

/- The program's reader: what is open, the nodes, and a value that is laid behind the others. -/
namespace Go.Proofs.YtgmdjofnkbaflaaGreatDoor
open Go.RowKit
set_option linter.unusedVariables false
set_option maxRecDepth 100000

/-! ### what stays -/
section
variable {α : Type} {enc : α → List Value} {k : Nat} {T : TypeId} {w w' : World} {B g j : Nat} {v : Value} {l : List α}
theorem own_blk {T' : TypeId} {cs : List Value} (h : Gn.Own enc k T w B v l) (hb : Blk w g T' cs) (hT : T ≠ T') : v.ownBlock ≠ some g := by
  rcases h.2 with ⟨rfl, _⟩ | ⟨g', cap, cur, rfl, _, hh, _⟩
  · simp [Value.ownBlock]
  · intro e
    obtain rfl : g' = g := by simpa [Value.ownBlock] using e
    unfold Blk at hb
    rw [hh] at hb
    injection hb with hb
    injection hb with _ hb
    exact hT hb
theorem own_set' {ys : List ByteArray} (h : Gn.Own enc k T w B v l) (hb : IsSet w j ys) : v.ownBlock ≠ some j := by
  rcases h.2 with ⟨rfl, _⟩ | ⟨g', cap, cur, rfl, _, hh, _⟩
  · simp [Value.ownBlock]
  · intro e
    obtain rfl : g' = j := by simpa [Value.ownBlock] using e
    unfold IsSet at hb
    rw [hh] at hb
    injection hb with hb
    cases hb
theorem blk_set {T' : TypeId} {cs : List Value} {ys : List ByteArray} (hb : Blk w g T' cs) (hs : IsSet w j ys) : g ≠ j := by
  rintro rfl
  unfold Blk at hb
  unfold IsSet at hs
  rw [hb] at hs
  injection hs with hs
  cases hs
theorem own_keep {S : Nat → Prop} (h : Gn.Own enc k T w B v l) (ht : Touch S w w') (hn : ∀ g, v.ownBlock = some g → ¬ S g) : Gn.Own enc k T w' B v l := by
  obtain ⟨h0, h1⟩ := h
  refine ⟨h0, ?_⟩
  rcases h1 with h1 | ⟨g, cap, cur, rfl, hg, hh, r⟩
  · exact .inl h1
  · have hlt : g < w.heap.size := by
      rcases Nat.lt_or_ge g w.heap.size with hlt | hge
      · exact hlt
      · rw [Array.getElem?_eq_none hge] at hh; cases hh
    exact .inr ⟨g, cap, cur, rfl, hg, (ht.block g hlt (hn g rfl)).trans hh, r⟩
theorem touch_grown {row : Option Nat} (h3 : w.grownBy w' row) : Touch (fun k => row = some k) w w' := ⟨h3.os, h3.tape, h3.output, h3.size, fun k hk hn => h3.block k hk fun e => hn e.symm⟩
theorem own_dj {β : Type} {enc' : β → List Value} {k' : Nat} {T' : TypeId} {B' : Nat} {v' : Value} {l' : List β} (h : Gn.Own enc k T w B v l) (h' : Gn.Own enc' k' T' w B' v' l') (hT : T ≠ T') : ∀ g, v.ownBlock = some g → ¬ v'.ownBlock = some g := by
  intro g hg hg'
  rcases own_apart h h' hT with h1 | h1
  · rw [h1] at hg; cases hg
  · exact h1 (by rw [hg, hg'])
end

/-! ### what is open -/
structure Op1 where
  at_ : Nat
  fin : Nat
  m : Option Nat
def opc (x : Op1) : List Value := [.int .i64 (x.at_ : Nat), .int .u8 (x.fin : Nat), .map x.m]
theorem opL : Gn.Lay opc 3 := ⟨fun _ => rfl, fun x v hv => by simp [opc] at hv; rcases hv with rfl | rfl | rfl <;> rfl, by omega⟩
theorem opY : Gn.Ty 60 112 (.agg #[.int .i64 0, .int .u8 0, .map none]) 3 24 := ⟨Tryz.underlying60, by kernel_rfl, by kernel_rfl, rfl, by omega⟩
def OwnO (w : World) (B : Nat) (v : Value) (l : List Op1) : Prop := Gn.Own opc 3 112 w B v l
theorem ne_rd : (28 : TypeId) ≠ 62 ∧ (112 : TypeId) ≠ 62 ∧ (112 : TypeId) ≠ 28 := by decide
/-- What is open, as it lies: where each one's node is, what ends it, the keys that it had. -/
def OR (w : World) (B : Nat) : List Jr.Fr → Fo → List Op1 → Prop
  | [], R, O => O = []
  | f :: r, R, O => ∃ O' m, O = O' ++ [⟨Jr.cnt r R, Jr.endOf f.kind, m⟩] ∧ OR w B r R O' ∧ ((f.kind = 6 ∧ m = none) ∨ (f.kind = 7 ∧ ∃ j, m = some j ∧ B ≤ j ∧ IsSet w j f.had ∧ ∀ x ∈ O', x.m ≠ some j))
theorem OR.touch {S : Nat → Prop} {w w' : World} {B : Nat} (ht : Touch S w w') (hn : ∀ j ys, IsSet w j ys → ¬ S j) : ∀ {op : List Jr.Fr} {R : Fo} {O : List Op1}, OR w B op R O → OR w' B op R O
  | [], R, O, h => h
  | f :: r, R, O, h => by
    obtain ⟨O', m, e, h1, h2⟩ := h
    refine ⟨O', m, e, OR.touch ht hn h1, h2.imp id ?_⟩
    rintro ⟨hk, j, e2, h3, h4, h5⟩
    exact ⟨hk, j, e2, h3, h4.touch ht (hn j _ h4), h5⟩
theorem OR.len {w : World} {B : Nat} : ∀ {op : List Jr.Fr} {R : Fo} {O : List Op1}, OR w B op R O → O.length = op.length
  | [], R, O, h => by rw [show O = [] from h]; rfl
  | f :: r, R, O, h => by
    obtain ⟨O', m, rfl, h1, _⟩ := h
    have := OR.len h1
    simp [this]
/-- Parts that are laid change nothing of what is open. -/
theorem OR.place {w : World} {B : Nat} (T : Fo) : ∀ {op : List Jr.Fr} {R : Fo} {O : List Op1}, OR w B op R O → OR w B (Jr.place T op R).1 (Jr.place T op R).2 O
  | [], R, O, h => h
  | f :: r, R, O, h => h

theorem slice_of {α : Type} {enc : α → List Value} {k : Nat} {w : World} {B : Nat} {v : Value} {l : List α} (h : Gn.Rd enc k w B v l) : ∃ a n c, v = .slice a n c := by
  obtain ⟨a, c, e, _⟩ := Gn.Rd.form h
  exact ⟨a, _, c, e⟩
/-- Behind the append: what the two stores find, and leave. -/
def PutEnd (w : World) (B g a : Nat) (S : ByteArray) (ov tv v : Value) (L : List Nd) (w' : World) : Prop :=
  ∃ tv', RP w' g S a 4 ⟨#[]⟩ ov tv' ∧ OwnN w' B tv' L ∧ Touch (fun k => k = g ∨ tv.ownBlock = some k ∨ v.ownBlock = some k) w w'
theorem put_after {w w2 w3 : World} {B g a : Nat} {S : ByteArray} {nx : Int} {ov tv v v3 : Value} {L : List Nd} (h2 : RP w2 g S a nx ⟨#[]⟩ ov tv) (hgt : tv.ownBlock ≠ some g) (ht2 : Touch (fun k => k = g ∨ tv.ownBlock = some k ∨ v.ownBlock = some k) w w2) (ho3 : OwnN w3 B v3 L) (hg3 : w2.grownBy w3 tv.ownBlock) :
    w3.frozen? ⟨g, 5, none⟩ = false ∧ w3.cell? ⟨g, 5, none⟩ = some tv ∧ (w3.setCell ⟨g, 5, none⟩ v3).frozen? ⟨g, 2, none⟩ = false ∧ (w3.setCell ⟨g, 5, none⟩ v3).cell? ⟨g, 2, none⟩ = some (.int .i64 nx) ∧
      Hid (PutEnd w B g a S ov tv v L ((w3.setCell ⟨g, 5, none⟩ v3).setCell ⟨g, 2, none⟩ (.int .i64 4))) := by
  have ht3 := touch_grown hg3
  have h3 : RP w3 g S a nx ⟨#[]⟩ ov tv := h2.touch ht3 hgt
  have h4 := h3.putT v3
  have hx3 := own_blk ho3 h3 ne_rd.1
  refine ⟨Blk.frozen h3 5, h3.lie.2.2.2.2.2, Blk.frozen h4 2, h4.lie.2.2.1, Lib.hid ⟨v3, h4.putN 4, ?_, ?_⟩⟩
  · exact own_keep (own_keep ho3 (touchG w3 g 5 v3) (fun k hk e => hx3 (by rw [← e]; exact hk))) (touchG _ g 2 _) (fun k hk e => hx3 (by rw [← e]; exact hk))
  · exact (ht2.trans ht3 (fun i hi => .inl (.inr (.inl hi)))).trans ((touchG w3 g 5 v3).trans (touchG _ g 2 (.int .i64 4)) (fun i hi => .inl hi)) (fun i hi => .inl (.inl hi))
set_option maxHeartbeats 4000000 in
theorem jput {w : World} {B C g a : Nat} {S y : ByteArray} {nx : Int} {ov tv v : Value} {L : List Nd} {x : Nd} (h : RP w g S a nx y ov tv) (ht : OwnN w B tv L) (hv : OwnN w C v [x]) (hd : ∀ k, v.ownBlock = some k → ¬ tv.ownBlock = some k) (hL : L.length ≤ 5000) (hB : B ≤ w.heap.size) :
    Calls Tryz.prog 114 #[.pointer (some ⟨g, 0, none⟩), v] w fun e w' => e = .returned (.tuple #[]) ∧ PutEnd w B g a S ov tv v (L ++ [{ x with key := y }]) w' := by
  obtain ⟨va, vc, rfl, _⟩ := Gn.Rd.form (Gn.Own.rd ndL hv)
  obtain ⟨gv, rfl⟩ := own_addr hv (by simp)
  have hg := own_blk hv h ne_rd.1
  have hgt := own_blk ht h ne_rd.1
  have hgv : ¬ g = gv := fun e => hg (by rw [e]; rfl)
  have htv : ¬ tv.ownBlock = some gv := hd gv rfl
  have f0 := own_melt hv rfl 1
  obtain ⟨_, _, e0, _, q0, _, _, _⟩ := rdN_cells (Gn.Own.rd ndL hv) (Below.refl _ _) (i := 0) (x := x) rfl
  obtain ⟨rfl, rfl⟩ : gv = _ ∧ 0 = _ := by injection e0 with e0; injection e0 with e1 e2; exact ⟨e1, e2⟩
  simp only [Nat.zero_mul, Nat.zero_add] at q0
  obtain ⟨_, _, _, c3, _, _⟩ := h.lie
  obtain ⟨w1, hw1⟩ : ∃ w1, w1 = w.setCell ⟨gv, 1, none⟩ (.string y) := ⟨_, rfl⟩
  have ht1 : Touch (fun k => k = gv) w w1 := by rw [hw1]; exact touchG w gv 1 _
  have h1 : RP w1 g S a nx y ov tv := h.touch ht1 hgv
  have hv1 : OwnN w1 C (.slice (some ⟨gv, 0, none⟩) 1 vc) [{ x with key := y }] := by
    have := own_put (i := 0) (m := 1) (u := .string y) (x' := { x with key := y }) hv rfl rfl rfl (by omega)
    rw [hw1]; simpa using this
  have ho1 : OwnN w1 B tv L := own_keep ht ht1 (fun k hk e => htv (by rw [← e]; exact hk))
  have f1 := Blk.frozen h1 3
  have hw2 : ∃ w2, w2 = w1.setCell ⟨g, 3, none⟩ (.string ⟨#[]⟩) := ⟨_, rfl⟩
  obtain ⟨w2, hw2⟩ := hw2
  have ht2 : Touch (fun k => k = g) w1 w2 := by rw [hw2]; exact touchG w1 g 3 _
  have h2 : RP w2 g S a nx ⟨#[]⟩ ov tv := by rw [hw2]; exact h1.putK _
  have hv2 : OwnN w2 C (.slice (some ⟨gv, 0, none⟩) 1 vc) [{ x with key := y }] := own_keep hv1 ht2 (fun k hk e => hg (by rw [← e]; exact hk))
  have ho2 : OwnN w2 B tv L := own_keep ho1 ht2 (fun k hk e => hgt (by rw [← e]; exact hk))
  obtain ⟨_, _, _, _, _, c5⟩ := h2.lie
  have H2 := Lib.hid h2
  have HV2 := Lib.hid (Gn.Own.rd ndL hv2)
  have HO2 := Lib.hid ho2
  have HT2 := Lib.hid (show Touch (fun k => k = g ∨ tv.ownBlock = some k ∨ (Value.slice (some ⟨gv, 0, none⟩) 1 vc).ownBlock = some k) w w2 from (ht1.mono (S' := fun k => k = g ∨ tv.ownBlock = some k ∨ (Value.slice (some ⟨gv, 0, none⟩) 1 vc).ownBlock = some k) (fun i hi => .inr (.inr (by rw [hi]; rfl)))).trans ht2 (fun i hi => .inl (.inl hi)))
  have HB := Lib.hid (Nat.le_trans hB (Nat.le_trans ht1.size ht2.size))
  have HG := Lib.hid hgt
  rw [hw1] at f1 hw2
  clear h ht hv hd h1 hv1 ho1 h2 hv2 ho2 ht1 ht2 hw1 hg hgt hB
  go_enter Tryz.func114, Tryz.ntmps114
  go_wp2_with (at_builtin
               rw [← hw2]
               refine Gn.wpList_app ndL ndY rfl (.tmp 18) (.tmp 19) rfl B tv L rfl HO2.out _ [({ x with key := y } : Nd)] rfl HV2.out (by simp; omega) HB.out ?_
               intro v3 w3 ho3 hg3 hl3 hn3
               obtain ⟨f5, d5, f2, d2, HE⟩ := put_after H2.out HG.out HT2.out ho3 hg3
               obtain ⟨a3, n3, c3, rfl⟩ := slice_of (Gn.Own.rd ndL ho3)
               clear ho3 hg3 hl3 hn3)
  go_end0
  exact ⟨rfl, HE.out⟩
theorem wd_step {W : List Nat} {S : ByteArray} {b i c : Nat} (hc : W[i]? = some c) (hn : c ≠ 0) : Jr.wd (W.drop i) (left S b) = if Jr.hd (left S b) = c then Jr.wd (W.drop (i + 1)) (left S (b + 1)) + 1 else 0 := by
  obtain ⟨hl, he⟩ := List.getElem?_eq_some_iff.1 hc
  rw [List.drop_eq_getElem_cons hl, he, Jr.wd, left_drop]
  by_cases h : Jr.hd (left S b) = c
  · rw [if_pos h, if_pos ⟨h, fun e => hn (by rw [← h, e]; rfl)⟩]
  · rw [if_neg h, if_neg (fun e => h e.1)]
/-- What taking a word leaves. -/
def WordEnd (w : World) (B g a : Nat) (S y : ByteArray) (nx : Int) (ov tv v : Value) (L : List Nd) (x : Nd) (W : ByteArray) (e : Ending) (w' : World) : Prop :=
  (Jr.wd (bl W) (left S a) = W.size ∧ e = .returned (.int .i64 0) ∧ a + W.size ≤ S.size ∧ PutEnd w B g (a + W.size) S ov tv v (L ++ [{ x with key := y }]) w') ∨
  (Jr.wd (bl W) (left S a) ≠ W.size ∧ e = .returned (.int .i64 70) ∧ Went w w' g S (a + Jr.wd (bl W) (left S a)) nx y ov tv)
theorem PutEnd.before {w w1 w2 : World} {B g a b : Nat} {S y : ByteArray} {nx : Int} {ov tv v : Value} {L : List Nd} (h : Went w w1 g S b nx y ov tv) (k : PutEnd w1 B g a S ov tv v L w2) : PutEnd w B g a S ov tv v L w2 := by
  obtain ⟨tv', h1, h2, h3⟩ := k
  exact ⟨tv', h1, h2, (h.2.mono (fun i hi => .inl hi)).trans h3 (fun i hi => .inl hi)⟩
theorem own_went {α : Type} {enc : α → List Value} {k : Nat} {T : TypeId} {w w' : World} {B g a b : Nat} {S y z : ByteArray} {nx mx : Int} {ov tv ou tu v : Value} {l : List α} (h : Gn.Own enc k T w B v l) (hr : RP w g S a nx y ov tv) (hw : Went w w' g S b mx z ou tu) (hT : T ≠ 62) : Gn.Own enc k T w' B v l :=
  own_keep h hw.2 (fun i hi e => own_blk h hr hT (by rw [← e]; exact hi))
set_option maxHeartbeats 4000000 in
theorem jtakeWord {w : World} {B C g a : Nat} {S y : ByteArray} {nx : Int} {ov tv v : Value} {L : List Nd} {x : Nd} (h : RP w g S a nx y ov tv) (ha : a ≤ S.size) (hm : S.size ≤ 1048576) (ht : OwnN w B tv L) (hv : OwnN w C v [x]) (hd : ∀ k, v.ownBlock = some k → ¬ tv.ownBlock = some k) (hL : L.length ≤ 5000) (hB : B ≤ w.heap.size)
    (W : ByteArray) (hW : 0 ∉ bl W) (hWs : W.size ≤ 100) :
    Calls Tryz.prog 73 #[.pointer (some ⟨g, 0, none⟩), .string W, v] w fun e w' => WordEnd w B g a S y nx ov tv v L x W e w' := by
  obtain ⟨va, vn, vc, rfl⟩ := slice_of (Gn.Own.rd ndL hv)
  obtain ⟨n, hn⟩ : ∃ n, Jr.wd (bl W) (left S a) = n := ⟨_, rfl⟩
  have HN := Lib.hid hn
  have H := Lib.hid h
  have HO := Lib.hid ht
  have HV := Lib.hid hv
  have HD := Lib.hid hd
  have HW0 := Lib.hid hW
  clear h ht hv hd hn hW
  go_enter Tryz.func73, Tryz.ntmps73
  go_wp2_with fail
  go_loopw [10] (fun iv wx => ∃ i : Nat, iv = .int .i64 (i : Nat) ∧ i ≤ W.size ∧ a + i ≤ S.size ∧ Hid (Went w wx g S (a + i) nx y ov tv ∧ n = i + Jr.wd ((bl W).drop i) (left S (a + i)))) (fun iv _ => W.size - (intOf iv).toNat)
  case atStart => exact ⟨0, by rfl, by omega, by omega, Lib.hid ⟨⟨H.out, Touch.refl _ _⟩, by rw [List.drop_zero, Nat.zero_add]; exact HN.out.symm⟩⟩
  case round =>
    obtain ⟨i, rfl, hi, hai, HW⟩ := hrel
    by_cases hlt : i < W.size
    · have hlt1 : (i : Int) < W.size := by omega
      have hx := bl_at W i hlt
      obtain ⟨c, hc⟩ : ∃ c, (bl W).getD i 0 = c := ⟨_, rfl⟩
      rw [hc] at hx
      have hcm : (bl W)[i]? = some c := by
        have hl : i < (bl W).length := by rw [bl_length]; exact hlt
        rw [List.getElem?_eq_getElem hl]
        rw [List.getD_eq_getElem?_getD, List.getElem?_eq_getElem hl] at hc
        exact congrArg some hc
      have hc0 : c ≠ 0 := fun e => HW0.out (by rw [← e]; exact List.mem_of_getElem? hcm)
      have HST := Lib.hid (wd_step (S := S) (b := a + i) hcm hc0)
      obtain ⟨d, hdd⟩ : ∃ d, Jr.hd (left S (a + i)) = d := ⟨_, rfl⟩
      have HC := Lib.hid (fun m => jhere (HW.out.1.1.drew m) hai hm d hdd)
      have f1 := fun n => Blk.frozen (HW.out.1.1.drew n) 1
      obtain ⟨_, d1, _⟩ := HW.out.1.1.lie
      have d1 : ∀ n, (wr.drewN n).cell? ⟨g, 1, none⟩ = some (.int .i64 ((a + i : Nat) : Int)) := fun n => d1
      by_cases he : d = c
      · have hne : ((d : Int) != c) = false := by simp [he]
        have hin := hd_in (S := S) (a := a + i) (by rw [hdd, he]; exact hc0)
        have HQ : Hid (n = i + 1 + Jr.wd ((bl W).drop (i + 1)) (left S (a + (i + 1)))) := Lib.hid (by
          have := HW.out.2
          rw [HST.out, hdd, if_pos he] at this
          rw [show a + (i + 1) = a + i + 1 by omega]; omega)
        clear hc hcm hdd he
        go_wp2_with fail
        go_quiet ((go_at_call 72; exact Calls.quiet_of (HC.out _)))
        have f1 := f1 nq
        have d1 := d1 nq
        have HWN : Hid (Went w ((wr.drewN nq).setCell ⟨g, 1, none⟩ (.int .i64 ((a + i + 1 : Nat) : Int))) g S (a + (i + 1)) nx y ov tv) := Lib.hid (HW.out.1.then (show Went wr _ g S (a + (i + 1)) nx y ov tv from ⟨(HW.out.1.1.drew nq).putA (a + i + 1), (touchD wr _ nq).trans (touchG _ g 1 _) (fun i hi => .inl hi)⟩))
        simp only [Int.natCast_add, Int.natCast_one] at HWN
        go_wp2_with fail
        go_roundw
        case rel => exact ⟨i + 1, by go_num, by omega, by omega, Lib.hid ⟨HWN.out, HQ.out⟩⟩
        case measure => simp [intOf]; omega
      · have hne : ((d : Int) != c) = true := by simp; omega
        have HQ : Hid (n = i) := Lib.hid (by
          have := HW.out.2
          rw [HST.out, hdd, if_neg he] at this
          omega)
        clear hc hcm hdd he
        go_wp2_with fail
        go_quiet ((go_at_call 72; exact Calls.quiet_of (HC.out _)))
        go_wp2_with fail
        go_ret
        refine .inr ⟨by rw [HN.out, HQ.out]; omega, rfl, ?_⟩
        rw [HN.out, HQ.out]
        exact ⟨HW.out.1.1.drew _, HW.out.1.2.trans (touchD wr _ _) (fun i hi => .inl hi)⟩
    · obtain rfl : i = W.size := by omega
      have hlt1 : ¬ (W.size : Int) < W.size := by omega
      have HQ : Hid (n = W.size) := Lib.hid (by
        have := HW.out.2
        rw [List.drop_eq_nil_of_le (by rw [bl_length]; exact Nat.le_refl _)] at this
        simpa [Jr.wd] using this)
      have CP := Lib.hid (jput HW.out.1.1 (own_went HO.out H.out HW.out.1 ne_rd.1) (own_went HV.out H.out HW.out.1 ne_rd.1) HD.out hL (Nat.le_trans hB HW.out.1.2.size))
      clear hlt
      go_wp2_with fail
      ((with_reducible refine (CP.out).mono ?_); rintro e w2 ⟨rfl, hp⟩)
      have HP := Lib.hid (PutEnd.before HW.out.1 hp)
      clear hp
      go_wp2_with fail
      go_ret
      exact .inl ⟨by rw [HN.out, HQ.out], rfl, hai, HP.out⟩
end Go.Proofs.YtgmdjofnkbaflaaGreatDoor

/- The program's reader: a literal, a list or an object that begins. -/
namespace Go.Proofs.YtgmdjofnkbaflaaGreatDoor
open Go.RowKit
set_option linter.unusedVariables false
set_option maxRecDepth 100000

theorem escs_ge : ∀ l : List Nat, l.length ≤ (Utf.escs l).length
  | [] => Nat.le_refl _
  | c :: l => by
    have := (Utf.escB_len c).1
    have := escs_ge l
    rw [Utf.escs_cons, List.length_append, List.length_cons]; omega
/-- A literal that is right: what it says is UTF-8, and it ends within the bytes. -/
theorem unq_fine {l t : List Nat} {n : Nat} (hl : ∀ x ∈ l, x < 256) (h : Utf.unq l = (t, n, 0)) : Utf.vld t = true ∧ (∀ x ∈ t, x < 256) ∧ t.length + 2 ≤ n ∧ n ≤ l.length ∧ Jr.hd l = 34 := by
  unfold Utf.unq at h
  by_cases h0 : l = []
  · rw [if_pos h0] at h; simp at h
  · by_cases h1 : l.getD 0 0 ≠ 34
    · rw [if_neg h0, if_pos h1] at h; simp at h
    · by_cases h2 : (Utf.ub (l.drop 1)).2.2 ≠ 0
      · rw [if_neg h0, if_neg h1, if_pos h2] at h
        simp only [Prod.mk.injEq] at h
        exact absurd h.2.2 h2
      · rw [if_neg h0, if_neg h1, if_neg h2] at h
        simp only [Prod.mk.injEq] at h
        obtain ⟨e1, e2, _⟩ := h
        obtain ⟨⟨rs, hr, he⟩, g2, g3⟩ := Utf.ub_good (l.drop 1).length (l.drop 1) (Nat.le_refl _) (fun x hx => hl x (List.mem_of_mem_drop hx)) (by omega)
        have g4 := escs_ge (Utf.ub (l.drop 1)).1
        have hp : 0 < l.length := by cases l with | nil => exact absurd rfl h0 | cons => simp
        rw [List.length_drop] at g3
        refine ⟨by rw [← e1, he]; exact Utf.vld_of rs hr, ?_, by rw [← e1, ← e2]; omega, by omega, by unfold Jr.hd; omega⟩
        rw [← e1, he]
        exact Utf.encs_byte rs hr
def nxn : Jr.Nx → Int | .value => 0 | .part => 1 | .key => 2 | .colon => 3 | .behind => 4
/-- The reader's memory, where a reading stands so. -/
structure PS (w : World) (B g : Nat) (S : ByteArray) (t : Jr.St) (ov tv : Value) (O : List Op1) : Prop where
  rp : RP w g S t.at_ (nxn t.nx) t.key ov tv
  tape : OwnN w B tv (Jr.zf id t.op t.root)
  opn : OwnO w B ov O
  ors : OR w B t.op t.root O
  gB : B ≤ g
  wB : B ≤ w.heap.size
  s : t.s = left S t.at_
  le : t.at_ ≤ S.size
  cnt : Jr.cnt t.op t.root ≤ 4000
  deep : t.op.length ≤ 64
  tB : TabAt B
theorem PS.later {w w' : World} {B g : Nat} {S : ByteArray} {t : Jr.St} {ov tv : Value} {O : List Op1} (h : PS w B g S t ov tv O) (hb : Below w.heap.size w w') : PS w' B g S t ov tv O :=
  ⟨h.rp.later hb, Gn.Own.later h.tape hb, Gn.Own.later h.opn hb, OR.touch (Touch.of_below (S := fun _ => False) hb) (fun _ _ _ hf => hf) h.ors, h.gB, Nat.le_trans h.wB hb.size, h.s, h.le, h.cnt, h.deep, h.tB⟩
/-- The reader itself has gone on. -/
theorem PS.went {w w' : World} {B g : Nat} {S : ByteArray} {t u : Jr.St} {ov tv : Value} {O : List Op1} (h : PS w B g S t ov tv O) (hw : Went w w' g S u.at_ (nxn u.nx) u.key ov tv) (ho : u.op = t.op) (hr : u.root = t.root) (hs : u.s = left S u.at_) (hl : u.at_ ≤ S.size) : PS w' B g S u ov tv O :=
  ⟨hw.1, by rw [ho, hr]; exact own_went h.tape h.rp hw ne_rd.1, own_went h.opn h.rp hw ne_rd.2.1, by rw [ho, hr]; exact OR.touch hw.2 (fun j ys hs e => blk_set h.rp hs e.symm) h.ors, h.gB, Nat.le_trans h.wB hw.2.size, hs, hl, by rw [ho, hr]; exact h.cnt, by rw [ho]; exact h.deep, h.tB⟩
theorem Went.below {w w' : World} {g a B : Nat} {S y : ByteArray} {nx : Int} {ov tv : Value} (h : Went w w' g S a nx y ov tv) (hg : B ≤ g) (hB : B ≤ w.heap.size) : Below B w w' := h.2.below hB (fun i e => by rw [e]; exact hg)
/-- A step's number. -/
def code : Jr.St ⊕ Jr.Res → Int
  | .inl _ => 0
  | .inr (.err _ e) => e
  | .inr (.ok _) => 0
/-- What a step leaves. -/
def After (w : World) (B g : Nat) (S : ByteArray) (r : Jr.St ⊕ Jr.Res) (w' : World) : Prop :=
  Below B w w' ∧ match r with
    | .inl u => ∃ ov tv O, PS w' B g S u ov tv O
    | .inr (.err a _) => ∃ nx y ov tv, RP w' g S a nx y ov tv
    | .inr (.ok _) => False
theorem After.before {w w1 w2 : World} {B g : Nat} {S : ByteArray} {r : Jr.St ⊕ Jr.Res} (hb : Below B w w1) (h : After w1 B g S r w2) : After w B g S r w2 := ⟨hb.trans h.1, h.2⟩
/-- A value of one node is laid; the reader itself may have gone on. -/
theorem leaf_after {w w' : World} {B C g m : Nat} {S : ByteArray} {t u : Jr.St} {ov tv v : Value} {O : List Op1} {k n : Int} {x : ByteArray} {l : List Nd} (h : PS w B g S u ov tv O) (ho : u.op = t.op) (hr : u.root = t.root) (hs : t.s = left S t.at_) (hv : OwnN w C v l) (hC : B ≤ C) (hc : Jr.cnt t.op t.root < 4000) (hm : t.at_ + m ≤ S.size)
    (hp : PutEnd w B g (t.at_ + m) S ov tv v (Jr.zf id t.op t.root ++ [⟨k, t.key, n, x, 1⟩]) w') : After w B g S (.inl (Jr.leaf t m k n x)) w' := by
  obtain ⟨tv', h1, h2, h3⟩ := hp
  have hb : Below B w w' := h3.below h.wB (fun i hi => by
    rcases hi with rfl | hi | hi
    · exact h.gB
    · exact (h.tape.lt i hi).1
    · exact Nat.le_trans hC (hv.lt i hi).1)
  refine ⟨hb, ov, tv', O, ?_⟩
  have e1 : Tp.flat (Jr.nd1 k t.key n x .nil) = [⟨k, t.key, n, x, 1⟩] := by
    unfold Jr.nd1
    rw [Tp.flat_node]
    simp
  refine ⟨h1, ?_, ?_, ?_, h.gB, Nat.le_trans h.wB h3.size, ?_, hm, ?_, ?_, h.tB⟩
  · show OwnN w' B tv' (Jr.zf id (Jr.place _ t.op t.root).1 (Jr.place _ t.op t.root).2)
    rw [Jr.place_zf, e1]
    exact h2
  · refine own_keep h.opn h3 (fun i hi e => ?_)
    rcases e with rfl | e | e
    · exact own_blk h.opn h.rp ne_rd.2.1 hi
    · exact own_dj h.opn h.tape ne_rd.2.2 i hi e
    · exact own_dj h.opn hv ne_rd.2.2 i hi e
  · have hor := h.ors
    rw [ho, hr] at hor
    refine OR.place _ (OR.touch h3 (fun j ys hs e => ?_) hor)
    rcases e with rfl | e | e
    · exact blk_set h.rp hs rfl
    · exact own_set' h.tape hs e
    · exact own_set' hv hs e
  · show t.s.drop m = left S (t.at_ + m)
    rw [hs, left_drop]
  · show Jr.cnt (Jr.place _ t.op t.root).1 (Jr.place _ t.op t.root).2 ≤ 4000
    rw [Jr.place_cnt]
    have : Tp.sz (Jr.nd1 k t.key n x .nil) = 1 := by unfold Tp.sz; rw [e1]; rfl
    omega
  · show (Jr.place _ t.op t.root).1.length ≤ 64
    rw [Jr.place_len, ← ho]
    exact h.deep
/-- A text whose literals the reader may take: short, or without any. -/
def TxOk (S : ByteArray) : Prop := S.size ≤ 1000000 ∨ 34 ∉ bl S
theorem TxOk.lit {S : ByteArray} (h : TxOk S) {a : Nat} (hd : Jr.hd (left S a) = 34) : S.size ≤ 1000000 := by
  rcases h with h | h
  · exact h
  · exfalso
    apply h
    have hlt := hd_in (S := S) (a := a) (by rw [hd]; decide)
    have hl : a < (bl S).length := by rw [bl_length]; exact hlt
    rw [left_hd, List.getD_eq_getElem?_getD, List.getElem?_eq_getElem hl] at hd
    rw [← hd]
    exact List.getElem_mem hl

set_option maxHeartbeats 8000000 in
theorem jtakeText {w : World} {B g : Nat} {S : ByteArray} {t : Jr.St} {ov tv : Value} {O : List Op1} (h : PS w B g S t ov tv O) (T : Tab w) (hS : S.size ≤ 1000000) (hc : Jr.cnt t.op t.root < 4000) :
    Calls Tryz.prog 76 #[.pointer (some ⟨g, 0, none⟩)] w fun e w' => e = .returned (.int .i64 (code (Jr.text t))) ∧ After w B g S (Jr.text t) w' := by
  obtain ⟨l, n, x, hu⟩ : ∃ l n x, Utf.unq t.s = (l, n, x) := ⟨_, _, _, rfl⟩
  have hle := h.le
  have hle1 : (t.at_ : Int) ≤ S.size := by omega
  have hex : (S.extract t.at_ S.size).size ≤ 1000000 := by rw [ByteArray.size_extract]; omega
  have CU := Lib.hid (unquote (S.extract t.at_ S.size) w.drew T hex l n x (by rw [bl_from, ← hu, h.s]))
  unfold quad at CU
  obtain ⟨c0, c1, _⟩ := h.rp.lie
  have HT := Lib.hid T
  have H := Lib.hid h
  have HU := Lib.hid hu
  clear h T hu
  go_enter Tryz.func76, Tryz.ntmps76
  go_wp2_with fail
  go_region_with ((go_at_call 79; (with_reducible refine (CU.out).mono ?_); rintro e w2 ⟨rfl, b⟩))
  all_goals
    have b : Below w.heap.size w w2 := (Below.refl _ _).drew.trans b
    have H2 := Lib.hid (H.out.later b)
    have HT2 := Lib.hid (HT.out.later b)
    have HB2 := Lib.hid b
    obtain ⟨_, d1, _⟩ := H2.out.rp.lie
    have f1 := Blk.frozen H2.out.rp 1
    clear b
    by_cases hx : x = 0
    case' neg =>
      have hx1 : ((x : Int) != 0) = true := by simp; omega
      have e : Jr.text t = .inr (.err t.at_ x) := by unfold Jr.text; rw [HU.out, if_pos hx]
      have HE := Lib.hid e
      clear hx e
      go_wp2_with fail
      go_ret
      rw [HE.out]
      exact ⟨rfl, HB2.out.mono H.out.wB, _, _, _, _, H2.out.rp⟩
    case' pos =>
      subst hx
      obtain ⟨g1, g2, g3, g4, _⟩ := unq_fine (by rw [H.out.s]; exact left_byte S _) HU.out
      rw [H.out.s, left_len] at g4
      have hle2 : t.at_ + n ≤ S.size := by omega
      obtain ⟨w3, hw3⟩ : ∃ w3, w3 = w2.setCell ⟨g, 1, none⟩ (.int .i64 ((t.at_ + n : Nat) : Int)) := ⟨_, rfl⟩
      have HW : Hid (Went w2 w3 g S (t.at_ + n) (nxn t.nx) t.key ov tv) := Lib.hid ⟨by rw [hw3]; exact H2.out.rp.putA _, by rw [hw3]; exact touchG _ g 1 _⟩
      have HU3 := Lib.hid (PS.went (u := { t with at_ := t.at_ + n, s := left S (t.at_ + n) }) H2.out HW.out rfl rfl rfl hle2)
      have HT3 := Lib.hid (HT2.out.below H.out.tB (HW.out.below H.out.gB (Nat.le_trans H.out.wB HB2.out.size)))
      have CS := Lib.hid (mkStr (str l) w3 HT3.out (by rw [str_size]; unfold maxLen; omega))
      have HG := Lib.hid (And.intro g1 g2)
      have HN0 := Lib.hid (show n ≤ S.size - t.at_ from g4)
      have HW3 := Lib.hid hw3
      rw [hw3] at CS
      simp only [Int.natCast_add] at CS
      clear hw3 g1 g2 g3 g4
      go_wp2_with fail
      ((with_reducible refine (CS.out).mono ?_); rintro e w4 ⟨v, rfl, ho, b⟩)
      have e3 := HW3.out
      simp only [Int.natCast_add] at e3
      rw [← e3] at ho b
      have es : strL (str l) = [nd1 5 0 (str l)] := by unfold strL; rw [bl_str l HG.out.2, if_pos HG.out.1]
      rw [es] at ho
      have H4 := Lib.hid (HU3.out.later b)
      have HO4 := Lib.hid ho
      have CP := Lib.hid (jput H4.out.rp H4.out.tape ho (fun k hk hk' => by have := (ho.lt k hk).1; have := (HU3.out.tape.lt k hk').2; omega) (by rw [Jr.zf_len]; show Jr.cnt t.op t.root ≤ 5000; omega) H4.out.wB)
      have HB4 := Lib.hid ((HB2.out.mono H.out.wB).trans ((HW.out.below H.out.gB (Nat.le_trans H.out.wB HB2.out.size)).trans (b.mono HU3.out.wB)))
      have HC4 := Lib.hid HU3.out.wB
      clear e3 ho b es
      go_wp2_with fail
      ((with_reducible refine (CP.out).mono ?_); rintro e w5 ⟨rfl, hp⟩)
      have HP := Lib.hid hp
      clear hp
      go_wp2_with fail
      go_ret
      have e : Jr.text t = .inl (Jr.leaf t n 5 0 (str l)) := by
        unfold Jr.text
        rw [HU.out, if_neg (by simp)]
      rw [e]
      exact ⟨rfl, After.before HB4.out (leaf_after H4.out rfl rfl H.out.s HO4.out HC4.out hc (by have := HN0.out; have := H.out.le; omega) HP.out)⟩
end Go.Proofs.YtgmdjofnkbaflaaGreatDoor

/- The program's reader: a list or an object begins. -/
namespace Go.Proofs.YtgmdjofnkbaflaaGreatDoor
open Go.RowKit
set_option linter.unusedVariables false
set_option maxRecDepth 100000

theorem rdv {α : Type} {enc : α → List Value} {k : Nat} {w : World} {B : Nat} {v : Value} {l : List α} (h : Gn.Rd enc k w B v l) (n : Nat) (hn : l.length = n) : ∃ a c, v = .slice a n c := by
  subst hn
  obtain ⟨a, c, e, _⟩ := Gn.Rd.form h
  exact ⟨a, c, e⟩
/-- A map beside what is open. -/
def MapOk (w : World) (B : Nat) (k : Int) (m : Option Nat) (O : List Op1) : Prop := (k = 6 ∧ m = none) ∨ (k = 7 ∧ ∃ j, m = some j ∧ B ≤ j ∧ IsSet w j [] ∧ ∀ x ∈ O, x.m ≠ some j)
theorem opRd (w : World) (x : Op1) : Gn.Rd opc 3 (w.alloc (.cells #[.int .i64 (x.at_ : Nat), .int .u8 (x.fin : Nat), .map x.m] 112)) (w.alloc (.cells #[.int .i64 (x.at_ : Nat), .int .u8 (x.fin : Nat), .map x.m] 112)).heap.size (.slice (some ⟨w.heap.size, 0, none⟩) 1 1) [x] :=
  Gn.Own.rd opL (Gn.Own.lit (T := 112) opL w w.heap.size [x] _ 1 1 rfl rfl rfl (by simp [maxLen]) (Nat.le_refl _))

theorem beg_after {w w2 w3 : World} {B g : Nat} {S : ByteArray} {t : Jr.St} {ov tv : Value} {O : List Op1} (h : PS w B g S t ov tv O) (hb : Below w.heap.size w w2) (hg : w2.grownBy w3 ov.ownBlock) :
    w3.frozen? ⟨g, 4, none⟩ = false ∧ w3.cell? ⟨g, 4, none⟩ = some ov ∧ Hid (RP w3 g S t.at_ (nxn t.nx) t.key ov tv ∧ Touch (fun k => ov.ownBlock = some k) w w3) := by
  have h3 : RP w3 g S t.at_ (nxn t.nx) t.key ov tv := (h.rp.later hb).touch (touch_grown hg) (own_blk h.opn h.rp ne_rd.2.1)
  exact ⟨Blk.frozen h3 4, h3.lie.2.2.2.2.1, Lib.hid ⟨h3, (Touch.of_below hb).trans (touch_grown hg) (fun i hi => .inl hi)⟩⟩
/-- What is open is one more; its node is not laid yet. -/
structure Bg (w : World) (B g : Nat) (S : ByteArray) (t : Jr.St) (O : List Op1) (k : Int) (m : Option Nat) (v3 tv : Value) (w4 : World) : Prop where
  rp : RP w4 g S t.at_ (nxn t.nx) t.key v3 tv
  tape : OwnN w4 B tv (Jr.zf id t.op t.root)
  opn : OwnO w4 B v3 (O ++ [⟨Jr.cnt t.op t.root, Jr.endOf k, m⟩])
  ors : OR w4 B t.op t.root O
  map : MapOk w4 B k m O
  bel : Below B w w4
  wB : B ≤ w4.heap.size
theorem MapOk.touch {S : Nat → Prop} {w w' : World} {B : Nat} {k : Int} {m : Option Nat} {O : List Op1} (h : MapOk w B k m O) (ht : Touch S w w') (hn : ∀ j ys, IsSet w j ys → ¬ S j) : MapOk w' B k m O := by
  rcases h with h | ⟨h1, j, h2, h3, h4, h5⟩
  · exact .inl h
  · exact .inr ⟨h1, j, h2, h3, h4.touch ht (hn j _ h4), h5⟩
theorem bg_start {w wb w3 : World} {B g : Nat} {S : ByteArray} {t : Jr.St} {ov tv v3 : Value} {O : List Op1} {k : Int} {m : Option Nat} (h : PS w B g S t ov tv O) (hm : MapOk w B k m O) (hb : Below w.heap.size w wb) (ht : Touch (fun i => ov.ownBlock = some i) wb w3) (hr : RP w3 g S t.at_ (nxn t.nx) t.key ov tv)
    (ho : OwnO w3 B v3 (O ++ [⟨Jr.cnt t.op t.root, Jr.endOf k, m⟩])) : Bg w B g S t O k m v3 tv (w3.setCell ⟨g, 4, none⟩ v3) := by
  have h1 := h.later hb
  have ht2 : Touch (fun i => i = g ∨ ov.ownBlock = some i) wb (w3.setCell ⟨g, 4, none⟩ v3) := (ht.mono (S' := fun i => i = g ∨ ov.ownBlock = some i) (fun i hi => .inr hi)).trans (touchG w3 g 4 v3) (fun i hi => .inl (.inl hi))
  have hno : ∀ j ys, IsSet wb j ys → ¬ (j = g ∨ ov.ownBlock = some j) := fun j ys hs e => by
    rcases e with rfl | e
    · exact blk_set h1.rp hs rfl
    · exact own_set' h1.opn hs e
  have hm1 : MapOk wb B k m O := hm.touch (Touch.of_below (S := fun _ => False) hb) (fun _ _ _ hf => hf)
  refine ⟨hr.putO v3, own_keep h1.tape ht2 (fun i hi e => ?_), own_keep ho (touchG w3 g 4 v3) (fun i hi e => own_blk ho hr ne_rd.2.1 (by rw [← e]; exact hi)), OR.touch ht2 hno h1.ors, hm1.touch ht2 hno, ?_, Nat.le_trans h1.wB ht2.size⟩
  · rcases e with rfl | e
    · exact own_blk h1.tape h1.rp ne_rd.1 hi
    · exact own_dj h1.opn h1.tape ne_rd.2.2 i e hi
  · exact (hb.mono h.wB).trans (ht2.below h1.wB (fun i hi => by
      rcases hi with rfl | hi
      · exact h.gB
      · exact (h1.opn.lt i hi).1))
theorem bg_end {w w4 w5 w6 : World} {B C g : Nat} {S : ByteArray} {t : Jr.St} {ov0 tv0 v3 tv v : Value} {O : List Op1} {k : Int} {m : Option Nat} {l : List Nd} (h0 : PS w B g S t ov0 tv0 O) (h : Bg w B g S t O k m v3 tv w4) (hb : Below w4.heap.size w4 w5) (hv : OwnN w5 C v l) (hC : B ≤ C) (hc : Jr.cnt t.op t.root < 4000) (hdp : t.op.length < 64) (hin : t.at_ < S.size)
    (hp : PutEnd w5 B g t.at_ S v3 tv v (Jr.zf id t.op t.root ++ [⟨k, t.key, 0, ⟨#[]⟩, 0⟩]) w6) :
    w6.frozen? ⟨g, 1, none⟩ = false ∧ w6.cell? ⟨g, 1, none⟩ = some (.int .i64 (t.at_ : Nat)) ∧ (w6.setCell ⟨g, 1, none⟩ (.int .i64 ((t.at_ + 1 : Nat) : Int))).frozen? ⟨g, 2, none⟩ = false ∧ (w6.setCell ⟨g, 1, none⟩ (.int .i64 ((t.at_ + 1 : Nat) : Int))).cell? ⟨g, 2, none⟩ = some (.int .i64 4) ∧
      Hid (After w B g S (.inl (Jr.opn t k)) ((w6.setCell ⟨g, 1, none⟩ (.int .i64 ((t.at_ + 1 : Nat) : Int))).setCell ⟨g, 2, none⟩ (.int .i64 1))) := by
  obtain ⟨tv', h1, h2, h3⟩ := hp
  have r5 := h.rp.later hb
  have o5 : OwnO w5 B v3 _ := Gn.Own.later h.opn hb
  have t5 : OwnN w5 B tv _ := Gn.Own.later h.tape hb
  have hno : ∀ j ys, IsSet w5 j ys → ¬ (j = g ∨ tv.ownBlock = some j ∨ v.ownBlock = some j) := fun j ys hs e => by
    rcases e with rfl | e | e
    · exact blk_set r5 hs rfl
    · exact own_set' t5 hs e
    · exact own_set' hv hs e
  have s5 : OR w5 B t.op t.root O := OR.touch (Touch.of_below (S := fun _ => False) hb) (fun _ _ _ hf => hf) h.ors
  have m5 : MapOk w5 B k m O := h.map.touch (Touch.of_below (S := fun _ => False) hb) (fun _ _ _ hf => hf)
  have o6 : OwnO w6 B v3 _ := own_keep o5 h3 (fun i hi e => by
    rcases e with rfl | e | e
    · exact own_blk o5 r5 ne_rd.2.1 hi
    · exact own_dj o5 t5 ne_rd.2.2 i hi e
    · exact own_dj o5 hv ne_rd.2.2 i hi e)
  have s6 := OR.touch h3 hno s5
  have m6 := m5.touch h3 hno
  have ra := h1.putA (t.at_ + 1)
  have tt : Touch (fun i => i = g) w6 ((w6.setCell ⟨g, 1, none⟩ (.int .i64 ((t.at_ + 1 : Nat) : Int))).setCell ⟨g, 2, none⟩ (.int .i64 1)) := (touchG w6 g 1 _).trans (touchG _ g 2 _) (fun i hi => .inl hi)
  have hng : ∀ j ys, IsSet w6 j ys → ¬ j = g := fun j ys hs e => blk_set h1 hs e.symm
  refine ⟨Blk.frozen h1 1, h1.lie.2.1, Blk.frozen ra 2, ra.lie.2.2.1, Lib.hid ⟨?_, v3, tv', (O ++ [(⟨Jr.cnt t.op t.root, Jr.endOf k, m⟩ : Op1)] : List Op1), ra.putN 1, ?_, own_keep o6 tt (fun i hi e => own_blk o6 h1 ne_rd.2.1 (by rw [← e]; exact hi)), ?_, h0.gB, ?_, ?_, ?_, ?_, ?_, h0.tB⟩⟩
  · refine h.bel.trans ((hb.mono h.wB).trans ((h3.below (Nat.le_trans h.wB hb.size) (fun i hi => ?_)).trans (tt.below (Nat.le_trans h.wB (Nat.le_trans hb.size h3.size)) (fun i hi => by rw [hi]; exact h0.gB))))
    rcases hi with rfl | hi | hi
    · exact h0.gB
    · exact (t5.lt i hi).1
    · exact Nat.le_trans hC (hv.lt i hi).1
  · exact own_keep h2 tt (fun i hi e => own_blk h2 h1 ne_rd.1 (by rw [← e]; exact hi))
  · refine ⟨O, m, rfl, OR.touch tt hng s6, ?_⟩
    rcases m6 with e | ⟨e, j, e2, e3, e4, e5⟩
    · exact .inl e
    · exact .inr ⟨e, j, e2, e3, e4.touch tt (hng j _ e4), e5⟩
  · exact Nat.le_trans h.wB (Nat.le_trans hb.size (Nat.le_trans h3.size tt.size))
  · show t.s.drop 1 = left S (t.at_ + 1)
    rw [h0.s, left_drop]
  · show t.at_ + 1 ≤ S.size
    omega
  · show Jr.cnt t.op t.root + (1 + Tp.sz .nil) ≤ 4000
    simp; omega
  · show t.op.length + 1 ≤ 64
    omega
set_option maxHeartbeats 8000000 in
theorem jbegin {w : World} {B g : Nat} {S : ByteArray} {t : Jr.St} {ov tv : Value} {O : List Op1} {k : Int} {m : Option Nat} (h : PS w B g S t ov tv O) (hc : Jr.cnt t.op t.root < 4000) (hdp : t.op.length < 64) (hin : t.at_ < S.size) (hm1 : S.size ≤ 1048576) (hm : MapOk w B k m O) :
    Calls Tryz.prog 77 #[.pointer (some ⟨g, 0, none⟩), .int .i64 k, .agg #[.int .i64 0, .int .u8 (Jr.endOf k : Nat), .map m]] w fun e w' => e = .returned (.tuple #[]) ∧ After w B g S (.inl (Jr.opn t k)) w' := by
  obtain ⟨fin, hfin⟩ : ∃ f, Jr.endOf k = f := ⟨_, rfl⟩
  obtain ⟨N, hN⟩ : ∃ N, Jr.cnt t.op t.root = N := ⟨_, rfl⟩
  obtain ⟨ta, tc, rfl⟩ := rdv (Gn.Own.rd ndL h.tape) N (by rw [Jr.zf_len]; exact hN)
  obtain ⟨oa, oc, rfl⟩ := rdv (Gn.Own.rd opL h.opn) t.op.length h.ors.len
  obtain ⟨wb, hwb⟩ : ∃ wb, wb = w.alloc (.cells #[.int .i64 (N : Nat), .int .u8 (fin : Nat), .map m] 112) := ⟨_, rfl⟩
  have bu : Below w.heap.size w wb := by rw [hwb]; exact up_new _ _
  have hbk : Blk wb w.heap.size 112 [.int .i64 (N : Nat), .int .u8 (fin : Nat), .map m] := by rw [hwb]; exact Blk.new w _ _
  have h1 := h.later bu
  obtain ⟨_, _, _, _, c4, _⟩ := h1.rp.lie
  obtain ⟨_, _, _, _, _, c5⟩ := h.rp.lie
  have c5 : (w.alloc (.cells #[.int .i64 0, .int .u8 (fin : Nat), .map m] 112)).cell? ⟨g, 5, none⟩ = some (.slice ta N tc) := ((up_new w _).cell (p := ⟨g, 5, none⟩) (Blk.lt h.rp)).trans c5
  have g0 := hbk.cell 0
  have g1 := hbk.cell 1
  have g2 := hbk.cell 2
  simp only [List.getElem?_cons_zero, List.getElem?_cons_succ] at g0 g1 g2
  have HFIN := Lib.hid hfin
  have HN := Lib.hid hN
  have H := Lib.hid h
  have HM := Lib.hid hm
  have HWB := Lib.hid hwb
  have H1 := Lib.hid h1
  have HBU := Lib.hid bu
  have hol : O.length ≤ 64 := by rw [h.ors.len]; omega
  rw [hfin]
  clear h hm h1 bu hbk hwb hfin hN
  go_enter Tryz.func77, Tryz.ntmps77
  go_wp2_with fail
  rw [← HWB.out]
  obtain ⟨gb, hgb⟩ : ∃ gb, gb = w.heap.size := ⟨_, rfl⟩
  rw [← hgb] at g0 g1 g2 ⊢
  have HGB := Lib.hid hgb
  have f4 := Blk.frozen H1.out.rp 4
  have bx := up_new wb.drew (.cells #[.int .i64 (N : Nat), .int .u8 (fin : Nat), .map m] 112)
  have bx : Below wb.heap.size wb (wb.drew.alloc (.cells #[.int .i64 (N : Nat), .int .u8 (fin : Nat), .map m] 112)) := (Below.refl _ _).drew.trans bx
  have HO2 := Lib.hid (Gn.Own.later H1.out.opn bx)
  have HR2 : Hid (Gn.Rd opc 3 (wb.drew.alloc (.cells #[.int .i64 (N : Nat), .int .u8 (fin : Nat), .map m] 112)) (wb.drew.alloc (.cells #[.int .i64 (N : Nat), .int .u8 (fin : Nat), .map m] 112)).heap.size (.slice (some ⟨wb.heap.size, 0, none⟩) 1 1) [(⟨N, fin, m⟩ : Op1)]) := Lib.hid (opRd wb.drew ⟨N, fin, m⟩)
  have HBX := Lib.hid bx
  have c4' : (wb.alloc (.cells #[.int .i64 (N : Nat), .int .u8 (fin : Nat), .map m] 112)).cell? ⟨g, 4, none⟩ = some (.slice oa t.op.length oc) := ((up_new wb _).cell (p := ⟨g, 4, none⟩) (Blk.lt H1.out.rp)).trans c4
  clear hgb bx
  go_region_law (refine Gn.step_app opL opY rfl (.tmp 16) (.tmp 18) rfl B _ O rfl HO2.out _ [(⟨N, fin, m⟩ : Op1)] rfl HR2.out (by simp; omega) (Nat.le_trans H1.out.wB HBX.out.size) ?_; intro v3 w3 ho3 hg3 hl3; obtain ⟨a3, n3, c3, rfl⟩ := slice_of (Gn.Own.rd opL ho3); obtain ⟨f5, d5, HE⟩ := beg_after H1.out HBX.out hg3)
  all_goals
    have ho4 : OwnO w3 B (.slice a3 n3 c3) (O ++ [⟨Jr.cnt t.op t.root, Jr.endOf k, m⟩]) := by
      have := ho3
      rw [← HN.out, ← HFIN.out] at this
      exact this
    have HBG := Lib.hid (bg_start H.out HM.out HBU.out HE.out.2 HE.out.1 ho4)
    obtain ⟨w4, hw4⟩ : ∃ w4, w4 = w3.setCell ⟨g, 4, none⟩ (.slice a3 n3 c3) := ⟨_, rfl⟩
    rw [← hw4] at HBG ⊢
    have hv5 := Gn.Own.lit (T := 28) ndL w4 w4.heap.size [(⟨k, ⟨#[]⟩, 0, ⟨#[]⟩, 0⟩ : Nd)] #[.int .i64 k, .string ⟨#[]⟩, .int .i64 0, .string ⟨#[]⟩, .int .i64 0] 1 1 rfl rfl rfl (by simp [maxLen]) (Nat.le_refl _)
    have hb5 := up_new w4 (.cells #[.int .i64 k, .string ⟨#[]⟩, .int .i64 0, .string ⟨#[]⟩, .int .i64 0] 28)
    have CP := Lib.hid (jput (HBG.out.rp.later hb5) (Gn.Own.later HBG.out.tape hb5) hv5 (fun i hi hi' => by have := (hv5.lt i hi).1; have := (HBG.out.tape.lt i hi').2; omega) (by rw [Jr.zf_len]; omega) (Nat.le_trans HBG.out.wB hb5.size))
    have HV5 := Lib.hid hv5
    have HB5 := Lib.hid hb5
    clear hw4 ho4 hv5 hb5
    go_wp2_with fail
    ((with_reducible refine (CP.out).mono ?_); rintro e w6 ⟨rfl, hp⟩)
    obtain ⟨f1, d1, f2, d2, HF⟩ := bg_end H.out HBG.out HB5.out HV5.out HBG.out.wB hc hdp hin hp
    simp only [Int.natCast_add, Int.natCast_one] at f2 d2 HF
    clear hp
    go_wp2_with fail
    go_end0
    exact ⟨rfl, HF.out⟩
end Go.Proofs.YtgmdjofnkbaflaaGreatDoor

/- The program's reader: single bytes; what was opened last ends. -/
namespace Go.Proofs.YtgmdjofnkbaflaaGreatDoor
open Go.RowKit
set_option linter.unusedVariables false
set_option maxRecDepth 100000

/-- The cells of what was opened last. -/
theorem last_open {W w : World} {n c : Nat} {ad : Option Addr} {O O' : List Op1} {x : Op1} (h : Gn.Rd opc 3 W W.heap.size (.slice ad n c) O) (hO : O = O' ++ [x]) (hb : Below W.heap.size W w) :
    ∃ b off, ad = some ⟨b, off, none⟩ ∧ w.cell? ⟨b, off + O'.length * 3, none⟩ = some (.int .i64 (x.at_ : Nat)) ∧ w.cell? ⟨b, off + O'.length * 3 + 1, none⟩ = some (.int .u8 (x.fin : Nat)) ∧ w.cell? ⟨b, off + O'.length * 3 + 2, none⟩ = some (.map x.m) := by
  have hl : O'.length < O.length := by rw [hO]; simp
  obtain ⟨b, off, rfl, _, hc⟩ := Gn.Rd.at h hb hl
  have e : O[O'.length] = x := by simp [hO]
  rw [e] at hc
  exact ⟨b, off, rfl, hc 0 _ rfl, hc 1 _ rfl, hc 2 _ rfl⟩
theorem eql_map0 (w : World) : (binOp .eql 110 (.map none) (.map none)).run Tryz.prog w = .ok (.bool true) w := by kernel_rfl
theorem eql_map1 (j : Nat) (w : World) : (binOp .eql 110 (.map (some j)) (.map none)).run Tryz.prog w = .ok (.bool false) w := by kernel_rfl
theorem PS.drew {w : World} {B g : Nat} {S : ByteArray} {t : Jr.St} {ov tv : Value} {O : List Op1} (h : PS w B g S t ov tv O) (m : Nat) : PS (w.drewN m) B g S t ov tv O := h.later (below_drewN (Below.refl _ _) m)
set_option maxHeartbeats 2000000 in
theorem jahead {w : World} {B g : Nat} {S : ByteArray} {t : Jr.St} {ov tv : Value} {O : List Op1} {f : Jr.Fr} {r : List Jr.Fr} (h : PS w B g S t ov tv O) (hop : t.op = f :: r) :
    Calls Tryz.prog 36 #[.pointer (some ⟨g, 0, none⟩)] w fun e w' => e = .returned (.int .i64 (nxn (Jr.ahead t.op))) ∧ ∃ m, w' = w.drewN m := by
  have hors := h.ors
  rw [hop] at hors
  obtain ⟨O', m, hO, h1, h2⟩ := hors
  obtain ⟨p, hp⟩ : ∃ p, O'.length = p := ⟨_, rfl⟩
  obtain ⟨n, hn⟩ : ∃ n, O.length = n := ⟨_, rfl⟩
  have hnp : n = p + 1 := by rw [← hn, ← hp, hO]; simp
  obtain ⟨oa, oc, rfl⟩ := rdv (Gn.Own.rd opL h.opn) n hn
  obtain ⟨ob, off, rfl, _, _, c2⟩ := last_open (Gn.Own.rd opL h.opn) hO (Below.refl _ _)
  rw [hp] at c2
  obtain ⟨_, _, _, _, c4, _⟩ := h.rp.lie
  have e1 : (n : Int) - 1 = (p : Nat) := by omega
  have e2 : (p : Int) < n := by omega
  have e3 : p < n := by omega
  have hp64 : n ≤ 65 := by have := h.ors.len; have := h.deep; omega
  have e4 : IntKind.i64.wrap ((n : Int) - 1) = (p : Nat) := by rw [IntWalk.i64_in _ ⟨by omega, by omega⟩]; exact e1
  have e5 : IntKind.i64.wrap (p : Int) = (p : Int) := IntWalk.i64_in _ ⟨by omega, by omega⟩
  rw [hop]
  simp only at c2
  rcases h2 with ⟨k6, rfl⟩ | ⟨k7, j, rfl, _⟩
  · rw [show nxn (Jr.ahead (f :: r)) = 0 by show nxn (if f.kind = 7 then Jr.Nx.key else Jr.Nx.value) = 0; rw [if_neg (by omega)]; rfl]
    have em := fun n => eql_map0 (w.drewN n)
    clear h hO h1 hn hp hnp k6 hop
    go_enter Tryz.func36, Tryz.ntmps36
    go_wp2_with fail
    go_quiet (fail)
    go_wp2_with fail
    go_ret
    exact ⟨rfl, _, rfl⟩
  · rw [show nxn (Jr.ahead (f :: r)) = 2 by show nxn (if f.kind = 7 then Jr.Nx.key else Jr.Nx.value) = 2; rw [if_pos k7]; rfl]
    have em := fun n => eql_map1 j (w.drewN n)
    clear h hO h1 hn hp hnp k7 hop
    go_enter Tryz.func36, Tryz.ntmps36
    go_wp2_with fail
    go_quiet (fail)
    go_wp2_with fail
    go_ret
    exact ⟨rfl, _, rfl⟩
set_option maxHeartbeats 2000000 in
theorem jtakeMark {w : World} {B g : Nat} {S : ByteArray} {t : Jr.St} {ov tv : Value} {O : List Op1} (h : PS w B g S t ov tv O) (hm : S.size ≤ 1048576) (c : Nat) (hc : c < 256) (hc0 : c ≠ 0) (nx : Jr.Nx) :
    Calls Tryz.prog 38 #[.pointer (some ⟨g, 0, none⟩), .int .u8 (c : Nat), .int .i64 (nxn nx)] w fun e w' =>
      e = .returned (.int .i64 (code (if Jr.hd t.s ≠ c then .inr (.err t.at_ 70) else .inl (Jr.go t 1 nx)))) ∧ After w B g S (if Jr.hd t.s ≠ c then .inr (.err t.at_ 70) else .inl (Jr.go t 1 nx)) w' := by
  obtain ⟨d, hd⟩ : ∃ d, Jr.hd (left S t.at_) = d := ⟨_, rfl⟩
  have C := Lib.hid (jhere h.rp h.le hm d hd)
  obtain ⟨_, c1, c2, _⟩ := h.rp.lie
  have H := Lib.hid h
  rw [h.s, hd]
  by_cases he : d = c
  · have hne : ((d : Int) != c) = false := by simp [he]
    have hin := hd_in (S := S) (a := t.at_) (by rw [hd, he]; exact hc0)
    rw [if_neg (by simp [he])]
    have f1 := fun m => Blk.frozen (h.rp.drew m) 1
    have f2 := fun m => Blk.frozen ((h.rp.drew m).putA (t.at_ + 1)) 2
    have d2 := fun m => ((h.rp.drew m).putA (t.at_ + 1)).lie.2.2.1
    simp only [Int.natCast_add, Int.natCast_one] at f2 d2
    have HW := Lib.hid (fun m => (show Went w (((w.drewN m).setCell ⟨g, 1, none⟩ (.int .i64 ((t.at_ + 1 : Nat) : Int))).setCell ⟨g, 2, none⟩ (.int .i64 (nxn nx))) g S (t.at_ + 1) (nxn nx) t.key ov tv from ⟨((H.out.rp.drew m).putA (t.at_ + 1)).putN _, (touchD w _ m).trans ((touchG _ g 1 _).trans (touchG _ g 2 _) (fun i hi => .inl hi)) (fun i hi => .inl hi)⟩))
    simp only [Int.natCast_add, Int.natCast_one] at HW
    clear h he hd
    go_enter Tryz.func38, Tryz.ntmps38
    go_wp2_with fail
    ((with_reducible refine (C.out).mono ?_); rintro e w1 ⟨rfl, m, rfl⟩)
    have f1 := f1 m
    have f2 := f2 m
    have d2 := d2 m
    go_wp2_with fail
    go_ret
    refine ⟨rfl, (HW.out m).below H.out.gB H.out.wB, ov, tv, O, PS.went (u := Jr.go t 1 nx) H.out (HW.out m) rfl rfl ?_ ?_⟩
    · show t.s.drop 1 = left S (t.at_ + 1)
      rw [H.out.s, left_drop]
    · show t.at_ + 1 ≤ S.size
      omega
  · have hne : ((d : Int) != c) = true := by simp; omega
    rw [if_pos he]
    clear h he hd
    go_enter Tryz.func38, Tryz.ntmps38
    go_wp2_with fail
    ((with_reducible refine (C.out).mono ?_); rintro e w1 ⟨rfl, m, rfl⟩)
    go_wp2_with fail
    go_ret
    exact ⟨rfl, (below_drewN (Below.refl _ _) m).mono H.out.wB, _, _, _, _, H.out.rp.drew m⟩
theorem own_addrG {α : Type} {enc : α → List Value} {k : Nat} {T : TypeId} {w : World} {B n cap : Nat} {ad : Option Addr} {l : List α} (h : Gn.Own enc k T w B (.slice ad n cap) l) (h0 : 0 < l.length) : ∃ g, ad = some ⟨g, 0, none⟩ := by
  rcases h.2 with ⟨_, e⟩ | ⟨g, c, cur, e, _⟩
  · omega
  · injection e with e
    exact ⟨g, e⟩
/-- A cut row is owned. -/
theorem own_cutO {w : World} {B : Nat} {a : Option Addr} {n c p : Nat} {O : List Op1} (h : OwnO w B (.slice a n c) O) (hn : O.length = n) (hp : p < n) : OwnO w B (.slice a p c) (O.take p) := by
  obtain ⟨h0, h1⟩ := h
  rcases h1 with ⟨e, _⟩ | ⟨g, cap, cur, e, hg, hh, h2, h3, h4, h5⟩
  · injection e with e1 e2 e3
    omega
  · injection e with e1 e2 e3
    subst e1 e3
    refine ⟨by rw [Gn.cells_len opL, List.length_take], .inr ⟨g, c, cur, by rw [List.length_take, Nat.min_eq_left (by omega)], hg, hh, by rw [List.length_take]; omega, h3, h4, ?_⟩⟩
    rw [List.length_take, Nat.min_eq_left (by omega)]
    have e5 : cur.toList.take (p * 3) = (cur.toList.take (O.length * 3)).take (p * 3) := by rw [List.take_take]; congr 1; omega
    rw [e5, h5]
    conv => lhs; rw [← List.take_append_drop p O, Gn.cells_append, List.take_append_of_le_length (by rw [Gn.cells_len opL, List.length_take]; omega), List.take_of_length_le (by rw [Gn.cells_len opL, List.length_take]; omega)]
theorem run_cutO (w : World) (b n c p : Nat) (hp : p ≤ n) (hn : n ≤ c) : (Instr.slice 60 (.slice (some ⟨b, 0, none⟩) n c) none (some (.int .i64 (p : Nat))) none).run Tryz.prog w = .ok (.slice (some ⟨b, 0, none⟩) p c) w := by
  rw [run_slice_h w _ _ _ _ (opY.el.symm ▸ opY.sl) _ _ (by omega) (by omega), opY.el, Gn.sz_of opY]
  simp [sliced, Gn.plain]
theorem endOf_ne (k : Int) : Jr.endOf k ≠ 0 ∧ Jr.endOf k < 256 := by unfold Jr.endOf; split <;> simp
/-- A node of an owned row gets its size. -/
theorem zf_close (f : Jr.Fr) (r : List Jr.Fr) (R : Fo) : (Jr.zf id (f :: r) R).set (Jr.cnt r R) ⟨f.kind, f.key, 0, ⟨#[]⟩, 1 + (Tp.sz f.done : Nat)⟩ = Jr.zf id (Jr.place (Jr.nd1 f.kind f.key 0 ⟨#[]⟩ f.done) r R).1 (Jr.place (Jr.nd1 f.kind f.key 0 ⟨#[]⟩ f.done) r R).2 := by
  rw [Jr.place_zf]
  unfold Jr.nd1
  rw [Tp.flat_node, Tp.flat_nil, List.append_nil, ← Jr.zf_len id r R]
  show (Jr.zf id r R ++ _ :: _).set _ _ = _
  rw [List.set_append_right (h := Nat.le_refl _), Nat.sub_self]
  rfl
theorem zf_at (f : Jr.Fr) (r : List Jr.Fr) (R : Fo) : (Jr.zf id (f :: r) R)[Jr.cnt r R]? = some ⟨f.kind, f.key, 0, ⟨#[]⟩, 0⟩ := by
  rw [← Jr.zf_len id r R]
  show (Jr.zf id r R ++ _ :: _)[_]? = _
  rw [List.getElem?_append_right (Nat.le_refl _), Nat.sub_self]
  rfl
/-- What was opened last has ended. -/
theorem cls_after {w1 : World} {B g gt N tc p n b oc : Nat} {S : ByteArray} {t : Jr.St} {O O' : List Op1} {f : Jr.Fr} {r : List Jr.Fr} {m : Option Nat} (h : PS w1 B g S t (.slice (some ⟨b, 0, none⟩) n oc) (.slice (some ⟨gt, 0, none⟩) N tc) O) (hnp : n = p + 1) (hop : t.op = f :: r) (hN : Jr.cnt t.op t.root = N) (hO : O = O' ++ [⟨Jr.cnt r t.root, Jr.endOf f.kind, m⟩]) (hO' : OR w1 B r t.root O') (hp : O'.length = p) (hin : t.at_ < S.size) (z : Int) (hz : z = 1 + (Tp.sz f.done : Nat)) :
    ∃ w2, w2 = w1.setCell ⟨gt, Jr.cnt r t.root * 5 + 4, none⟩ (.int .i64 z) ∧ w2.frozen? ⟨g, 4, none⟩ = false ∧ w2.cell? ⟨g, 4, none⟩ = some (.slice (some ⟨b, 0, none⟩) n oc) ∧
    ∃ w3, w3 = w2.setCell ⟨g, 4, none⟩ (.slice (some ⟨b, 0, none⟩) p oc) ∧ w3.frozen? ⟨g, 1, none⟩ = false ∧ w3.cell? ⟨g, 1, none⟩ = some (.int .i64 (t.at_ : Nat)) ∧
    ∃ w4, w4 = w3.setCell ⟨g, 1, none⟩ (.int .i64 ((t.at_ : Int) + 1)) ∧ w4.frozen? ⟨g, 2, none⟩ = false ∧ w4.cell? ⟨g, 2, none⟩ = some (.int .i64 (nxn t.nx)) ∧
      Hid (After w1 B g S (.inl (Jr.cls t)) (w4.setCell ⟨g, 2, none⟩ (.int .i64 4))) := by
  subst hnp
  have hT := h.tape
  rw [hop] at hT hN
  have hx := zf_at f r t.root
  have t2 := own_put (m := 4) (u := .int .i64 z) (x' := ⟨f.kind, f.key, 0, ⟨#[]⟩, z⟩) hT (by rw [Jr.zf_len]; exact hN) hx rfl (by omega)
  rw [hz, zf_close] at t2
  have hgt : gt ≠ g := fun e => own_blk h.tape h.rp ne_rd.1 (by rw [e]; rfl)
  have tt : Touch (fun i => i = gt) w1 (w1.setCell ⟨gt, Jr.cnt r t.root * 5 + 4, none⟩ (.int .i64 z)) := touchG w1 gt _ _
  have r2 := h.rp.touch tt hgt.symm
  have o2 : OwnO _ B _ O := own_keep h.opn tt (fun i hi e => own_dj h.opn h.tape ne_rd.2.2 i hi (by rw [e]; rfl))
  have s2 : OR _ B r t.root O' := OR.touch tt (fun j ys hs e => own_set' h.tape hs (by rw [e]; rfl)) hO'
  rw [← hz] at t2
  refine ⟨_, rfl, Blk.frozen r2 4, r2.lie.2.2.2.2.1, ?_⟩
  have hOl : O.length = p + 1 := by rw [hO]; simp [hp]
  have o3 := own_cutO (p := p) o2 hOl (by omega)
  have hOt : O.take p = O' := by rw [hO, ← hp]; simp
  rw [hOt] at o3
  have r3 := r2.putO (.slice (some ⟨b, 0, none⟩) p oc)
  refine ⟨_, rfl, Blk.frozen r3 1, r3.lie.2.1, ?_⟩
  have r4 := r3.putA (t.at_ + 1)
  simp only [Int.natCast_add, Int.natCast_one] at r4
  refine ⟨_, rfl, Blk.frozen r4 2, r4.lie.2.2.1, Lib.hid ?_⟩
  have r5 := r4.putN 4
  have tg := ((touchG (w1.setCell ⟨gt, Jr.cnt r t.root * 5 + 4, none⟩ (.int .i64 z)) g 4 (.slice (some ⟨b, 0, none⟩) p oc)).trans (touchG _ g 1 (.int .i64 ((t.at_ : Int) + 1))) (fun i hi => .inl hi)).trans (touchG _ g 2 (.int .i64 4)) (fun i hi => .inl hi)
  have ta := (tt.mono (S' := fun i => i = gt ∨ i = g) (fun i hi => .inl hi)).trans tg (fun i hi => .inl (.inr hi))
  have hgB := h.gB
  have htB : B ≤ gt := (h.tape.lt gt rfl).1
  have e1 : Jr.cls t = ⟨t.at_ + 1, t.s.drop 1, .behind, t.key, (Jr.place (Jr.nd1 f.kind f.key 0 ⟨#[]⟩ f.done) r t.root).1, (Jr.place (Jr.nd1 f.kind f.key 0 ⟨#[]⟩ f.done) r t.root).2⟩ := by unfold Jr.cls; rw [hop]
  rw [e1]
  have hdeep := h.deep
  have hcnt := h.cnt
  rw [hop] at hdeep hcnt
  refine ⟨ta.below h.wB (fun i hi => by rcases hi with rfl | rfl <;> assumption), .slice (some ⟨b, 0, none⟩) p oc, .slice (some ⟨gt, 0, none⟩) N tc, O', r5, ?_, ?_, ?_, hgB, Nat.le_trans h.wB ta.size, ?_, ?_, ?_, ?_, h.tB⟩
  · exact own_keep t2 tg (fun i hi e => own_blk t2 r2 ne_rd.1 (by rw [← e]; exact hi))
  · have o4 : OwnO _ B (.slice (some ⟨b, 0, none⟩) p oc) O' := own_keep o3 tg (fun i hi e => own_blk o3 r2 ne_rd.2.1 (by rw [← e]; exact hi))
    exact o4
  · exact OR.place _ (OR.touch tg (fun j ys hs e => blk_set r2 hs e.symm) s2)
  · show t.s.drop 1 = left S (t.at_ + 1)
    rw [h.s, left_drop]
  · show t.at_ + 1 ≤ S.size
    omega
  · show Jr.cnt (Jr.place _ r t.root).1 (Jr.place _ r t.root).2 ≤ 4000
    rw [Jr.place_cnt]
    unfold Jr.nd1
    rw [Tp.sz_node, Tp.sz_nil]
    show Jr.cnt r t.root + (1 + Tp.sz f.done + 0) ≤ 4000
    have : Jr.cnt r t.root + (1 + Tp.sz f.done) ≤ 4000 := hcnt
    omega
  · show (Jr.place _ r t.root).1.length ≤ 64
    rw [Jr.place_len]
    simp at hdeep
    omega
set_option maxHeartbeats 8000000 in
theorem jtakeEnd {w : World} {B g : Nat} {S : ByteArray} {t : Jr.St} {ov tv : Value} {O : List Op1} {f : Jr.Fr} {r : List Jr.Fr} (h : PS w B g S t ov tv O) (hop : t.op = f :: r) (hm : S.size ≤ 1048576) :
    Calls Tryz.prog 35 #[.pointer (some ⟨g, 0, none⟩)] w fun e w' =>
      (Jr.hd t.s = Jr.endOf f.kind ∧ e = .returned (.bool true) ∧ After w B g S (.inl (Jr.cls t)) w') ∨
      (Jr.hd t.s ≠ Jr.endOf f.kind ∧ e = .returned (.bool false) ∧ PS w' B g S t ov tv O ∧ Below w.heap.size w w') := by
  have hors := h.ors
  rw [hop] at hors
  obtain ⟨O', m, hO, h1, h2⟩ := hors
  obtain ⟨p, hp⟩ : ∃ p, O'.length = p := ⟨_, rfl⟩
  obtain ⟨n, hn⟩ : ∃ n, O.length = n := ⟨_, rfl⟩
  have hnp : n = p + 1 := by rw [← hn, ← hp, hO]; simp
  obtain ⟨N, hN⟩ : ∃ N, Jr.cnt t.op t.root = N := ⟨_, rfl⟩
  obtain ⟨oa, oc, rfl⟩ := rdv (Gn.Own.rd opL h.opn) n hn
  obtain ⟨ta, tc, rfl⟩ := rdv (Gn.Own.rd ndL h.tape) N (by rw [Jr.zf_len]; exact hN)
  obtain ⟨ob, rfl⟩ := own_addrG h.opn (by omega)
  have hNp : Jr.cnt r t.root + (1 + Tp.sz f.done) = N := by rw [← hN, hop]; rfl
  obtain ⟨gt, rfl⟩ := own_addr h.tape (by rw [Jr.zf_len]; omega)
  obtain ⟨wb, hwb⟩ : ∃ wb, wb = w.alloc (.cells #[.int .i64 (Jr.cnt r t.root : Nat), .int .u8 (Jr.endOf f.kind : Nat), .map m] 112) := ⟨_, rfl⟩
  have bu : Below w.heap.size w wb := by rw [hwb]; exact up_new _ _
  have hbk : Blk wb w.heap.size 112 [.int .i64 (Jr.cnt r t.root : Nat), .int .u8 (Jr.endOf f.kind : Nat), .map m] := by rw [hwb]; exact Blk.new w _ _
  have hb1 := h.later bu
  have ho1 : OR wb B r t.root O' := OR.touch (Touch.of_below (S := fun _ => False) bu) (fun _ _ _ hf => hf) h1
  obtain ⟨b0, off0, e0, p0, p1, p2⟩ := last_open (Gn.Own.rd opL h.opn) hO (Below.refl _ _)
  obtain ⟨rfl, rfl⟩ : ob = b0 ∧ 0 = off0 := by injection e0 with e0; injection e0 with e1 e2; exact ⟨e1, e2⟩
  rw [hp] at p0 p1 p2
  simp only [Nat.zero_add] at p0 p1 p2
  have g0 := hbk.cell 0
  have g1 := hbk.cell 1
  simp only [List.getElem?_cons_zero, List.getElem?_cons_succ] at g0 g1
  obtain ⟨fin, hfin⟩ : ∃ x, Jr.endOf f.kind = x := ⟨_, rfl⟩
  obtain ⟨pl, hpl⟩ : ∃ x, Jr.cnt r t.root = x := ⟨_, rfl⟩
  rw [hfin] at p1 g1 hwb
  rw [hpl] at p0 g0 hwb
  obtain ⟨_, _, _, _, c4, c5⟩ := h.rp.lie
  obtain ⟨_, k1, k2, _, k4, k5⟩ := hb1.rp.lie
  have e1 : (n : Int) - 1 = (p : Nat) := by omega
  have e2 : (p : Int) < n := by omega
  have e3 : p < n := by omega
  have hp64 : n ≤ 65 := by have := h.ors.len; have := h.deep; omega
  have e4 : IntKind.i64.wrap ((n : Int) - 1) = (p : Nat) := by rw [IntWalk.i64_in _ ⟨by omega, by omega⟩]; exact e1
  have e5 : IntKind.i64.wrap (p : Int) = (p : Int) := IntWalk.i64_in _ ⟨by omega, by omega⟩
  have hN4 : N ≤ 4000 := by rw [← hN]; exact h.cnt
  have H := Lib.hid h
  have H1 := Lib.hid hb1
  have HO := Lib.hid hO
  have HO1 := Lib.hid ho1
  have HOP := Lib.hid hop
  have HFN := Lib.hid hfin
  have HPL := Lib.hid hpl
  have HPN := Lib.hid (And.intro hp hn)
  have HN := Lib.hid hN
  have HWB := Lib.hid hwb
  have HBU := Lib.hid bu
  have HNP := Lib.hid hNp
  obtain ⟨d, hd⟩ : ∃ d, Jr.hd (left S t.at_) = d := ⟨_, rfl⟩
  have HD := Lib.hid hd
  have C := Lib.hid (fun m => jhere (hb1.rp.drew m) hb1.le hm d hd)
  rw [h.s, hd, hfin]
  obtain ⟨gb, hgb⟩ : ∃ gb, gb = w.heap.size := ⟨_, rfl⟩
  rw [← hgb] at g0 g1
  have HGB := Lib.hid hgb
  rw [hpl] at hNp
  have hplN : (pl : Int) < N := by omega
  have hpls : (N : Int) - pl = 1 + (Tp.sz f.done : Nat) := by omega
  have hplw : IntKind.i64.wrap ((N : Int) - pl) = (N : Int) - pl := IntWalk.i64_in _ ⟨by omega, by omega⟩
  have hft := fun j => own_melt hb1.tape (by rw [Jr.zf_len]; exact hN) j
  have hx := zf_at f r t.root
  rw [← hop, hpl] at hx
  obtain ⟨b1, o1, q0, _, _, _, _, q4⟩ := rdN_cells (Gn.Own.rd ndL hb1.tape) (Below.refl _ _) hx
  obtain ⟨rfl, rfl⟩ : gt = b1 ∧ 0 = o1 := by injection q0 with q0; injection q0 with e1 e2; exact ⟨e1, e2⟩
  simp only [Nat.zero_add] at q4
  have HPS := Lib.hid hpls
  clear h hO h1 h2 hn hp hop hfin hpl hb1 ho1 bu hbk hwb hgb hN hd hx hnp hNp hpls
  go_enter Tryz.func35, Tryz.ntmps35
  go_wp2_with fail
  rw [← HWB.out, ← HGB.out]
  by_cases he : d = fin
  · have hne : ((d : Int) != fin) = false := by simp [he]
    have HE := Lib.hid he
    clear he
    go_wp2_with fail
    go_quiet ((go_at_call 72; exact Calls.quiet_of (C.out _)))
    obtain ⟨w1, hw1⟩ : ∃ w1, w1 = wb.drewN nq := ⟨_, rfl⟩
    rw [← hw1]
    have HP1 := Lib.hid (show PS w1 B g S t (.slice (some ⟨ob, 0, none⟩) n oc) (.slice (some ⟨gt, 0, none⟩) N tc) O by rw [hw1]; exact H1.out.drew nq)
    have HB1 := Lib.hid (show Below w.heap.size w w1 by rw [hw1]; exact below_drewN HBU.out nq)
    have HR1 := Lib.hid (show OR w1 B r t.root O' by rw [hw1]; exact OR.touch (touchD wb (fun _ => False) nq) (fun _ _ _ hf => hf) HO1.out)
    replace g0 : w1.cell? ⟨gb, 0, none⟩ = some (.int .i64 (pl : Nat)) := by rw [hw1]; exact g0
    replace k4 : w1.cell? ⟨g, 4, none⟩ = some (.slice (some ⟨ob, 0, none⟩) n oc) := by rw [hw1]; exact k4
    replace k5 : w1.cell? ⟨g, 5, none⟩ = some (.slice (some ⟨gt, 0, none⟩) N tc) := by rw [hw1]; exact k5
    replace q4 : w1.cell? ⟨gt, pl * 5 + 4, none⟩ = some (.int .i64 0) := by rw [hw1]; exact q4
    replace hft : ∀ j, w1.frozen? ⟨gt, j, none⟩ = false := by rw [hw1]; exact hft
    clear hw1
    go_wp2_with fail
    go_region
    have hnp : n = p + 1 := by
      have h1 := HPN.out.1
      have h2 := HPN.out.2
      rw [HO.out, List.length_append, h1] at h2
      simp at h2
      omega
    have hlt := hd_in (S := S) (a := t.at_) (by rw [HD.out, HE.out, ← HFN.out]; exact (endOf_ne _).1)
    obtain ⟨w2, hw2, f4, d4, w3, hw3, f1, d1, w4, hw4, f2, d2, HF⟩ := cls_after (w1 := w1.drew) (show PS w1.drew B g S t _ _ O from HP1.out.later (Below.refl _ _).drew) hnp HOP.out HN.out HO.out (show OR w1.drew B r t.root O' from OR.touch (Touch.drew (Touch.refl (fun _ => False) _)) (fun _ _ _ hf => hf) HR1.out) HPN.out.1 hlt ((N : Int) - pl) HPS.out
    have hpc : p ≤ oc := by
      have := HP1.out.opn.2
      have h2 := HPN.out.2
      rcases this with ⟨e, _⟩ | ⟨_, cap, _, e, _, _, h2, _⟩ <;> injection e with e1 e2 e3 <;> omega
    have e2w : (w1.setCell ⟨gt, pl * 5 + 4, none⟩ (.int .i64 ((N : Int) - pl))).drew = w2 := by rw [hw2, HPL.out]; rfl
    rw [e2w]
    have HA := Lib.hid HF.out
    have HW3 := Lib.hid hw3
    have HW4 := Lib.hid hw4
    rw [hw3] at f1 d1
    rw [hw4, hw3] at f2 d2 HA
    clear hw2 hw3 hw4 e2w HF hft q4 k4 k5 g0
    go_wp2_with fail
    go_ret
    refine .inl ⟨HE.out, rfl, After.before ((HB1.out.drew).mono H.out.wB) ?_⟩
    exact HA.out
  · have hne : ((d : Int) != fin) = true := by simp; omega
    have HE := Lib.hid he
    clear he
    go_wp2_with fail
    go_quiet ((go_at_call 72; exact Calls.quiet_of (C.out _)))
    go_wp2_with fail
    go_ret
    exact .inr ⟨HE.out, rfl, H1.out.drew nq, below_drewN HBU.out nq⟩
end Go.Proofs.YtgmdjofnkbaflaaGreatDoor

/- The program's reader: a member's key. -/
namespace Go.Proofs.YtgmdjofnkbaflaaGreatDoor
open Go.RowKit
set_option linter.unusedVariables false
set_option maxRecDepth 100000

theorem OR.other {w w' : World} {B j : Nat} (ht : Touch (fun i => i = j) w w') : ∀ {op : List Jr.Fr} {R : Fo} {O : List Op1}, OR w B op R O → (∀ x ∈ O, x.m ≠ some j) → OR w' B op R O
  | [], R, O, h, _ => h
  | f :: r, R, O, h, hn => by
    obtain ⟨O', m, rfl, h1, h2⟩ := h
    refine ⟨O', m, rfl, OR.other ht h1 (fun x hx => hn x (List.mem_append_left _ hx)), h2.imp id ?_⟩
    rintro ⟨hk, i, e2, h3, h4, h5⟩
    exact ⟨hk, i, e2, h3, h4.touch ht (fun e => hn ⟨Jr.cnt r R, Jr.endOf f.kind, m⟩ (by simp) (by rw [← e]; exact e2)), h5⟩
/-- A key more; the reader behind it. -/
theorem key_after {w2 : World} {B g n j : Nat} {S : ByteArray} {t : Jr.St} {ov tv : Value} {O O' : List Op1} {f : Jr.Fr} {r : List Jr.Fr} {y : ByteArray} (h : PS w2 B g S t ov tv O) (hop : t.op = f :: r) (hk : f.kind = 7) (hO : O = O' ++ [⟨Jr.cnt r t.root, Jr.endOf f.kind, some j⟩]) (h1 : OR w2 B r t.root O') (hB : B ≤ j) (hs : IsSet w2 j f.had) (hO' : ∀ x ∈ O', x.m ≠ some j) (hn : t.at_ + n ≤ S.size) :
    ∃ w3, w3 = tput w2 j f.had y ∧ w3.frozen? ⟨g, 3, none⟩ = false ∧ w3.cell? ⟨g, 3, none⟩ = some (.string t.key) ∧
    ∃ w4, w4 = w3.setCell ⟨g, 3, none⟩ (.string y) ∧ w4.frozen? ⟨g, 1, none⟩ = false ∧ w4.cell? ⟨g, 1, none⟩ = some (.int .i64 (t.at_ : Nat)) ∧
    ∃ w5, w5 = w4.setCell ⟨g, 1, none⟩ (.int .i64 ((t.at_ : Int) + n)) ∧ w5.frozen? ⟨g, 2, none⟩ = false ∧ w5.cell? ⟨g, 2, none⟩ = some (.int .i64 (nxn t.nx)) ∧
      Hid (After w2 B g S (.inl { at_ := t.at_ + n, s := t.s.drop n, nx := .colon, key := y, op := { f with had := f.had ++ [y] } :: r, root := t.root }) (w5.setCell ⟨g, 2, none⟩ (.int .i64 3))) := by
  have tt := touch_tput w2 j f.had y
  have hgj : g ≠ j := blk_set h.rp hs
  have r3 := h.rp.touch tt hgj
  have t3 := own_keep h.tape tt (fun i hi e => own_set' h.tape hs (by rw [← e]; exact hi))
  have o3 : OwnO _ B ov O := own_keep h.opn tt (fun i hi e => own_set' h.opn hs (by rw [← e]; exact hi))
  have s3 : OR _ B r t.root O' := OR.other tt h1 hO'
  have m3 := hs.put y
  refine ⟨_, rfl, Blk.frozen r3 3, r3.lie.2.2.2.1, ?_⟩
  have r4 := r3.putK y
  refine ⟨_, rfl, Blk.frozen r4 1, r4.lie.2.1, ?_⟩
  have r5 := r4.putA (t.at_ + n)
  simp only [Int.natCast_add] at r5
  refine ⟨_, rfl, Blk.frozen r5 2, r5.lie.2.2.1, Lib.hid ?_⟩
  have r6 := r5.putN 3
  have tg := ((touchG (tput w2 j f.had y) g 3 (.string y)).trans (touchG _ g 1 (.int .i64 ((t.at_ : Int) + n))) (fun i hi => .inl hi)).trans (touchG _ g 2 (.int .i64 3)) (fun i hi => .inl hi)
  have ta := (tt.mono (S' := fun i => i = j ∨ i = g) (fun i hi => .inl hi)).trans tg (fun i hi => .inl (.inr hi))
  have hgB := h.gB
  refine ⟨ta.below h.wB (fun i hi => by rcases hi with rfl | rfl <;> assumption), ov, tv, O, r6, ?_, own_keep o3 tg (fun i hi e => own_blk o3 r3 ne_rd.2.1 (by rw [← e]; exact hi)), ?_, hgB, Nat.le_trans h.wB ta.size, ?_, hn, ?_, ?_, h.tB⟩
  · have := h.tape
    rw [hop] at t3
    exact own_keep t3 tg (fun i hi e => own_blk t3 r3 ne_rd.1 (by rw [← e]; exact hi))
  · exact ⟨O', some j, hO, OR.touch tg (fun i ys hi e => blk_set r3 hi e.symm) s3, .inr ⟨hk, j, rfl, hB, m3.touch tg (fun e => hgj e.symm), hO'⟩⟩
  · show t.s.drop n = left S (t.at_ + n)
    rw [h.s, left_drop]
  · have := h.cnt
    rw [hop] at this
    exact this
  · have := h.deep
    rw [hop] at this
    exact this
set_option maxHeartbeats 8000000 in
theorem jtakeKey {w : World} {B g : Nat} {S : ByteArray} {t : Jr.St} {ov tv : Value} {O : List Op1} {f : Jr.Fr} {r : List Jr.Fr} (h : PS w B g S t ov tv O) (hop : t.op = f :: r) (hk : f.kind = 7) (hm : S.size ≤ 1048576) (hX : TxOk S) (T : Tab w) :
    Calls Tryz.prog 37 #[.pointer (some ⟨g, 0, none⟩)] w fun e w' => e = .returned (.int .i64 (code (Jr.stepK t))) ∧ After w B g S (Jr.stepK t) w' := by
  have hors := h.ors
  rw [hop] at hors
  obtain ⟨O', m, hO, h1, h2⟩ := hors
  obtain ⟨j, rfl, hBj, hsj, hOj⟩ : ∃ j, m = some j ∧ B ≤ j ∧ IsSet w j f.had ∧ ∀ x ∈ O', x.m ≠ some j := by
    rcases h2 with ⟨e, _⟩ | ⟨_, h⟩
    · omega
    · exact h
  obtain ⟨d, hd⟩ : ∃ d, Jr.hd (left S t.at_) = d := ⟨_, rfl⟩
  have C := Lib.hid (jhere h.rp h.le hm d hd)
  obtain ⟨c0, c1, _⟩ := h.rp.lie
  have H := Lib.hid h
  have HOP := Lib.hid hop
  have HO := Lib.hid hO
  have H1 := Lib.hid h1
  have HJ := Lib.hid (And.intro hBj (And.intro hsj hOj))
  have HD := Lib.hid hd
  have HT := Lib.hid T
  have hle := h.le
  have hle1 : (t.at_ : Int) ≤ S.size := by omega
  have HK : Hid (Jr.stepK t = if Jr.hd t.s ≠ 34 then .inr (.err t.at_ 70) else if (Utf.unq t.s).2.2 ≠ 0 then .inr (.err t.at_ (Utf.unq t.s).2.2) else if str (Utf.unq t.s).1 ∈ f.had then .inr (.err t.at_ 71) else .inl { at_ := t.at_ + (Utf.unq t.s).2.1, s := t.s.drop (Utf.unq t.s).2.1, nx := .colon, key := str (Utf.unq t.s).1, op := { f with had := f.had ++ [str (Utf.unq t.s).1] } :: r, root := t.root }) := Lib.hid (by unfold Jr.stepK; rw [hop])
  by_cases he : d = 34
  · have hne : ((d : Int) != 34) = false := by simp [he]
    have hS : S.size ≤ 1000000 := hX.lit (a := t.at_) (by rw [hd, he])
    obtain ⟨l, n, x, hu⟩ : ∃ l n x, Utf.unq t.s = (l, n, x) := ⟨_, _, _, rfl⟩
    have hex : (S.extract t.at_ S.size).size ≤ 1000000 := by rw [ByteArray.size_extract]; omega
    have CU := Lib.hid (fun (m : Nat) => unquote (S.extract t.at_ S.size) (w.drewN (m + 1)) T hex l n x (by rw [bl_from, ← hu, h.s]))
    unfold quad at CU
    have HU := Lib.hid hu
    have HE := Lib.hid (show Jr.hd t.s = 34 by rw [h.s, hd, he])
    clear h hop hO h1 h2 hBj hsj hOj hd T he hu
    go_enter Tryz.func37, Tryz.ntmps37
    go_wp2_with fail
    ((with_reducible refine (C.out).mono ?_); rintro e w1 ⟨rfl, mm, rfl⟩)
    have CU := Lib.hid (CU.out mm)
    go_wp2_with fail
    go_region_with ((go_at_call 79; (with_reducible refine (CU.out).mono ?_); rintro e w2 ⟨rfl, b⟩))
    all_goals
      have b : Below w.heap.size w w2 := (below_drewN (Below.refl _ _) (mm + 1)).trans b
      have H2 := Lib.hid (H.out.later b)
      have HB2 := Lib.hid b
      have R2 := Lib.hid (show OR w2 B r t.root O' from OR.touch (Touch.of_below (S := fun _ => False) b) (fun _ _ _ hf => hf) H1.out)
      have S2 := Lib.hid (HJ.out.2.1.later b)
      obtain ⟨d0, d1, d2, d3, d4, _⟩ := H2.out.rp.lie
      clear b CU
      by_cases hx : x = 0
      case' neg =>
        have hx1 : ((x : Int) != 0) = true := by simp; omega
        have e : Jr.stepK t = .inr (.err t.at_ x) := by rw [HK.out, HU.out, if_neg (by rw [HE.out]; simp), if_pos hx]
        have HE1 := Lib.hid e
        clear hx e
        go_wp2_with fail
        go_ret
        rw [HE1.out]
        exact ⟨rfl, HB2.out.mono H.out.wB, _, _, _, _, H2.out.rp⟩
      case' pos =>
        subst hx
        obtain ⟨g1, g2, g3, g4, _⟩ := unq_fine (by rw [H.out.s]; exact left_byte S _) HU.out
        rw [H.out.s, left_len] at g4
        have HN0 := Lib.hid (show t.at_ + n ≤ S.size by omega)
        have hn1 : n ≤ 1000000 := by omega
        clear g1 g2 g3 g4
        obtain ⟨p, hp⟩ : ∃ p, O'.length = p := ⟨_, rfl⟩
        obtain ⟨q, hq⟩ : ∃ q, O.length = q := ⟨_, rfl⟩
        have hnp : q = p + 1 := by rw [← hq, ← hp, HO.out]; simp
        obtain ⟨oa, oc, rfl⟩ := rdv (Gn.Own.rd opL H2.out.opn) q hq
        obtain ⟨ob, off, rfl, _, _, m2⟩ := last_open (Gn.Own.rd opL H2.out.opn) HO.out (Below.refl _ _)
        rw [hp] at m2
        simp only at m2
        have e1 : (q : Int) - 1 = (p : Nat) := by omega
        have e2 : (p : Int) < q := by omega
        have e3 : p < q := by omega
        have hp64 : q ≤ 65 := by have := H2.out.ors.len; have := H2.out.deep; omega
        have e4 : IntKind.i64.wrap ((q : Int) - 1) = (p : Nat) := by rw [IntWalk.i64_in _ ⟨by omega, by omega⟩]; exact e1
        have e5 : IntKind.i64.wrap (p : Int) = (p : Int) := IntWalk.i64_in _ ⟨by omega, by omega⟩
        clear hp hq hnp
        go_wp2_with fail
        go_quiet (fail)
        obtain ⟨w3, hw3⟩ : ∃ w3, w3 = w2.drewN nq := ⟨_, rfl⟩
        rw [← hw3]
        have b3 : Below w2.heap.size w2 w3 := by rw [hw3]; exact below_drewN (Below.refl _ _) nq
        have H3 := Lib.hid (H2.out.later b3)
        have S3 := Lib.hid (S2.out.later b3)
        have B3 := Lib.hid (HB2.out.trans (b3.mono HB2.out.size))
        have R3 := Lib.hid (OR.touch (Touch.of_below (S := fun _ => False) b3) (fun _ _ _ hf => hf) R2.out)
        clear hw3 b3 d0 d1 d2 d3 d4 m2
        by_cases hin : str l ∈ f.had
        case' pos =>
          have hl := set_some S3.out (str l) hin
          have e : Jr.stepK t = .inr (.err t.at_ 71) := by rw [HK.out, HU.out, if_neg (by rw [HE.out]; simp), if_neg (by simp), if_pos hin]
          have HE1 := Lib.hid e
          clear hin e
          go_wp2_with fail
          go_ret
          rw [HE1.out]
          exact ⟨rfl, ((B3.out).alloc B3.out.size _).mono H.out.wB, _, _, _, _, (H3.out.later (up_new _ _)).rp⟩
        case' neg =>
          have hl := set_none S3.out (str l) hin
          have e : Jr.stepK t = .inl { at_ := t.at_ + n, s := t.s.drop n, nx := .colon, key := str l, op := { f with had := f.had ++ [str l] } :: r, root := t.root } := by rw [HK.out, HU.out, if_neg (by rw [HE.out]; simp), if_neg (by simp), if_neg hin]
          have HE1 := Lib.hid e
          obtain ⟨w4, hw4⟩ : ∃ w4, w4 = w3.alloc (.cells #[] 115) := ⟨_, rfl⟩
          have b4 : Below w3.heap.size w3 w4 := by rw [hw4]; exact up_new _ _
          have H4 := Lib.hid (H3.out.later b4)
          have S4 := Lib.hid (S3.out.later b4)
          have R4 := Lib.hid (OR.touch (Touch.of_below (S := fun _ => False) b4) (fun _ _ _ hf => hf) R3.out)
          have B4 := Lib.hid (B3.out.trans (b4.mono B3.out.size))
          have hu := set_put S4.out (str l) hin
          obtain ⟨w5, hw5, f3, d3, w6, hw6, f1, d1, w7, hw7, f2, d2, HF⟩ := key_after (y := str l) H4.out HOP.out hk HO.out R4.out HJ.out.1 S4.out HJ.out.2.2 HN0.out
          have ew : IntKind.i64.wrap ((t.at_ : Int) + n) = (t.at_ : Int) + n := IntWalk.i64_in _ ⟨by omega, by omega⟩
          rw [← hw5] at hu
          have HF1 := Lib.hid HF.out
          rw [hw6] at f1 d1
          rw [hw7, hw6] at f2 d2 HF1
          have HW4 := Lib.hid hw4
          rw [hw4] at hu
          clear hin e hw4 b4 hw5 hw6 hw7 HF
          go_wp2_with fail
          go_ret
          rw [HE1.out]
          exact ⟨rfl, After.before (B4.out.mono H.out.wB) HF1.out⟩
  · have hne : ((d : Int) != 34) = true := by simp; omega
    have HE := Lib.hid (show Jr.hd t.s ≠ 34 by rw [h.s, hd]; exact he)
    clear h hop hO h1 h2 hBj hsj hOj hd T he
    go_enter Tryz.func37, Tryz.ntmps37
    go_wp2_with fail
    ((with_reducible refine (C.out).mono ?_); rintro e w1 ⟨rfl, m, rfl⟩)
    go_wp2_with fail
    go_ret
    rw [HK.out, if_pos HE.out]
    exact ⟨rfl, (below_drewN (Below.refl _ _) m).mono H.out.wB, _, _, _, _, H.out.rp.drew m⟩
end Go.Proofs.YtgmdjofnkbaflaaGreatDoor

/- Numbers' bytes, plainly: what the library makes of them. -/
namespace Go.Proofs.YtgmdjofnkbaflaaGreatDoor.Jr
open Go.Lib
set_option linter.unusedVariables false

def fold (acc : Nat) (l : List Nat) : Nat := l.foldl (fun n c => 10 * n + (c - 48)) acc
theorem val_fold (l : List Nat) : val l = fold 0 l := rfl
theorem fold_ge : ∀ (l : List Nat) (acc : Nat), acc ≤ fold acc l
  | [], acc => Nat.le_refl _
  | c :: l, acc => by
    have := fold_ge l (10 * acc + (c - 48))
    show acc ≤ fold (10 * acc + (c - 48)) l
    omega
def M64 : Nat := 18446744073709551615
theorem pm_iff : ∀ (l : List UInt8) (acc u : Nat), acc ≤ M64 → (parseUintM M64 acc l = .ok u ↔ (∀ c ∈ l.map UInt8.toNat, isd c = true) ∧ u = fold acc (l.map UInt8.toNat) ∧ fold acc (l.map UInt8.toNat) ≤ M64)
  | [], acc, u, h => by
    unfold parseUintM
    simp only [List.map_nil, List.not_mem_nil, false_implies, implies_true, true_and]
    show NumEnd.ok acc = .ok u ↔ u = acc ∧ acc ≤ M64
    constructor
    · intro e; injection e with e; exact ⟨e.symm, h⟩
    · rintro ⟨rfl, _⟩; rfl
  | c :: r, acc, u, h => by
    unfold parseUintM
    have hf : fold acc ((c :: r).map UInt8.toNat) = fold (10 * acc + (c.toNat - 48)) (r.map UInt8.toNat) := rfl
    have hge := fold_ge (r.map UInt8.toNat) (10 * acc + (c.toNat - 48))
    rw [hf]
    by_cases hd : 48 ≤ c.toNat ∧ c.toNat ≤ 57
    · rw [if_pos hd]
      have hi : isd c.toNat = true := by simp [isd, hd]
      by_cases h1 : 1844674407370955162 ≤ acc
      · rw [if_pos h1]
        constructor
        · intro e; cases e
        · rintro ⟨_, _, e⟩; unfold M64 at e; omega
      · rw [if_neg h1]
        by_cases h2 : M64 < acc * 10 + (c.toNat - 48)
        · rw [if_pos h2]
          constructor
          · intro e; cases e
          · rintro ⟨_, _, e⟩; omega
        · rw [if_neg h2, show acc * 10 + (c.toNat - 48) = 10 * acc + (c.toNat - 48) by omega, pm_iff r (10 * acc + (c.toNat - 48)) u (by omega)]
          simp only [List.map_cons, List.mem_cons, forall_eq_or_imp, hi, true_and]
    · rw [if_neg hd]
      constructor
      · intro e; cases e
      · rintro ⟨e, _⟩
        have := e c.toNat (by simp)
        simp [isd] at this
        omega
theorem pi_neg (c : UInt8) (r : List UInt8) (hc : c.toNat = 45) (hr : r ≠ []) (v : Int) : parseIntB 64 (c :: r) = .ok v ↔ (∀ x ∈ r.map UInt8.toNat, isd x = true) ∧ v = -(val (r.map UInt8.toNat) : Int) ∧ val (r.map UInt8.toNat) ≤ 9223372036854775808 := by
  unfold parseIntB
  simp only [hc, or_true, if_true]
  unfold parseUintB
  rw [if_neg hr, show (2 ^ 64 - 1 : Nat) = M64 from rfl]
  have h0 := fun u => pm_iff r 0 u (by decide)
  cases he : parseUintM M64 0 r with
  | ok u =>
    obtain ⟨h1, h2, h3⟩ := (h0 u).1 he
    rw [val_fold, ← h2]
    simp only [not_true_eq_false, false_and, if_false, true_and]
    by_cases h4 : 2 ^ (64 - 1) < u
    · rw [if_pos h4]
      constructor
      · intro e; cases e
      · rintro ⟨_, _, e⟩; simp at h4; omega
    · rw [if_neg h4]
      simp at h4
      constructor
      · intro e; injection e with e; exact ⟨h1, e.symm, by omega⟩
      · rintro ⟨_, e, _⟩; rw [e]
  | «range» =>
    constructor
    · intro e; cases e
    · rintro ⟨h1, h2, h3⟩
      have := (h0 _).2 ⟨h1, rfl, by rw [← val_fold]; unfold M64; omega⟩
      rw [he] at this; cases this
  | _ =>
    constructor
    · intro e; cases e
    · rintro ⟨h1, h2, h3⟩
      have := (h0 _).2 ⟨h1, rfl, by rw [← val_fold]; unfold M64; omega⟩
      rw [he] at this; cases this
theorem pi_pos (c : UInt8) (r : List UInt8) (hc : c.toNat ≠ 45) (hc2 : c.toNat ≠ 43) (v : Int) : parseIntB 64 (c :: r) = .ok v ↔ (∀ x ∈ (c :: r).map UInt8.toNat, isd x = true) ∧ v = (val ((c :: r).map UInt8.toNat) : Nat) ∧ val ((c :: r).map UInt8.toNat) < 9223372036854775808 := by
  unfold parseIntB
  have hn : ¬ (c.toNat = 43 ∨ c.toNat = 45) := by omega
  simp only [hn, if_false]
  unfold parseUintB
  rw [if_neg (by simp), show (2 ^ 64 - 1 : Nat) = M64 from rfl]
  have h0 := fun u => pm_iff (c :: r) 0 u (by decide)
  cases he : parseUintM M64 0 (c :: r) with
  | ok u =>
    obtain ⟨h1, h2, h3⟩ := (h0 u).1 he
    rw [val_fold, ← h2]
    simp only [hc, not_false_eq_true, true_and, false_and, if_false]
    by_cases h4 : 2 ^ (64 - 1) ≤ u
    · rw [if_pos h4]
      constructor
      · intro e; cases e
      · rintro ⟨_, _, e⟩; simp at h4; omega
    · rw [if_neg h4]
      simp at h4
      constructor
      · intro e; injection e with e; exact ⟨h1, e.symm, by omega⟩
      · rintro ⟨_, e, _⟩; rw [e]
  | «range» =>
    constructor
    · intro e; cases e
    · rintro ⟨h1, h2, h3⟩
      have := (h0 _).2 ⟨h1, rfl, by rw [← val_fold]; unfold M64; omega⟩
      rw [he] at this; cases this
  | _ =>
    constructor
    · intro e; cases e
    · rintro ⟨h1, h2, h3⟩
      have := (h0 _).2 ⟨h1, rfl, by rw [← val_fold]; unfold M64; omega⟩
      rw [he] at this; cases this
theorem nd_all : ∀ (s : List Nat), ∀ x ∈ s.take (nd s), isd x = true
  | [], x, h => by simp [nd] at h
  | c :: t, x, h => by
    unfold nd at h
    by_cases hc : isd c = true
    · rw [if_pos hc, List.take_succ_cons] at h
      rcases List.mem_cons.1 h with rfl | h
      · exact hc
      · exact nd_all t x h
    · rw [if_neg hc] at h; simp at h
theorem nIn_all (s : List Nat) : ∀ x ∈ s.take (nIn s), isd x = true := by
  intro x h
  unfold nIn at h
  by_cases hc : hd s = 48
  · rw [if_pos hc] at h
    cases s with
    | nil => simp at hc
    | cons c t =>
      simp at hc
      subst hc
      simp at h
      subst h; decide
  · rw [if_neg hc] at h; exact nd_all s x h
theorem nIn_le (s : List Nat) : nIn s ≤ s.length := by
  unfold nIn
  by_cases hc : hd s = 48
  · rw [if_pos hc]
    cases s with
    | nil => simp at hc
    | cons c t => simp
  · rw [if_neg hc]; exact nd_le s
theorem hd_at (s : List Nat) (i : Nat) (h : hd (s.drop i) ≠ 0) : s[i]? = some (hd (s.drop i)) := by
  unfold hd at h ⊢
  rw [List.getD_eq_getElem?_getD, List.getElem?_drop, Nat.add_zero] at h ⊢
  cases e : s[i]? with
  | none => rw [e] at h; simp at h
  | some x => rfl
/-- What is scanned is digits alone just if it ends behind the whole. -/
theorem scan_digits (s : List Nat) (n : Nat) (h : scan s = (n, true)) : n = nP5 s ∧ nP1 s < nP2 s ∧ nP2 s ≤ n ∧ ((∀ x ∈ (s.drop (nP1 s)).take (n - nP1 s), isd x = true) ↔ n = nP2 s) := by
  unfold scan at h
  by_cases c1 : nP2 s = nP1 s
  · rw [if_pos c1] at h; simp at h
  · by_cases c2 : nP3 s = nP2 s + 1
    · rw [if_neg c1, if_pos c2] at h; simp at h
    · by_cases c3 : isE (s.drop (nP3 s)) ∧ nP5 s = nP4 s
      · rw [if_neg c1, if_neg c2, if_pos c3] at h; simp at h
      · rw [if_neg c1, if_neg c2, if_neg c3] at h
        obtain rfl : n = nP5 s := by injection h with h; exact h.symm
        have e2 : nP2 s = nP1 s + nIn (s.drop (nP1 s)) := rfl
        have e3 : nP3 s = nP2 s + nFr (s.drop (nP2 s)) := rfl
        have e4 : nP4 s = nP3 s + nEh (s.drop (nP3 s)) := rfl
        have e5 : nP5 s = nP4 s + nEd (s.drop (nP3 s)) := rfl
        refine ⟨rfl, by omega, by omega, fun hall => ?_, fun he => ?_⟩
        · -- a byte that is none
          rcases Nat.lt_or_ge (nP2 s) (nP5 s) with hlt | hge
          · exfalso
            have hb : hd (s.drop (nP2 s)) = 46 ∨ hd (s.drop (nP2 s)) = 101 ∨ hd (s.drop (nP2 s)) = 69 := by
              by_cases f : hd (s.drop (nP2 s)) = 46
              · exact .inl f
              · right
                have hf : nFr (s.drop (nP2 s)) = 0 := by unfold nFr; rw [if_neg f]
                rw [hf, Nat.add_zero] at e3
                by_cases g : isE (s.drop (nP3 s))
                · unfold isE at g; rw [e3] at g; exact g
                · exfalso
                  have h1 : nEh (s.drop (nP3 s)) = 0 := by unfold nEh; rw [if_neg g]
                  have h2 : nEd (s.drop (nP3 s)) = 0 := by unfold nEd; rw [if_neg g]
                  omega
            have hat := hd_at s (nP2 s) (by omega)
            have hm : hd (s.drop (nP2 s)) ∈ (s.drop (nP1 s)).take (nP5 s - nP1 s) := by
              apply List.mem_of_getElem? (i := nP2 s - nP1 s)
              rw [List.getElem?_take_of_lt (by omega), List.getElem?_drop, show nP1 s + (nP2 s - nP1 s) = nP2 s by omega]
              exact hat
            have := hall _ hm
            simp [isd] at this
            omega
          · omega
        · rw [he, show nP2 s - nP1 s = nIn (s.drop (nP1 s)) by omega]
          exact nIn_all _
theorem token {s : List Nat} {n : Nat} (h : scan s = (n, true)) {L : List UInt8} (hL : L.map UInt8.toNat = s.take n) :
    (fits s → parseIntB 64 L = .ok (nVal s)) ∧ (¬ fits s → ∀ v, parseIntB 64 L ≠ .ok v) := by
  obtain ⟨hn, h12, h2n, hdig⟩ := scan_digits s n h
  have e2 : nP2 s = nP1 s + nIn (s.drop (nP1 s)) := rfl
  have hle : nP2 s ≤ s.length := by
    have := nIn_le (s.drop (nP1 s))
    rw [List.length_drop] at this
    omega
  by_cases h45 : hd s = 45
  · have p1 : nP1 s = 1 := by unfold nP1 nSg; rw [if_pos h45]
    rw [p1] at hdig e2 h12
    cases s with
    | nil => simp at h45
    | cons c0 s' =>
      simp at h45
      subst h45
      cases n with
      | zero => omega
      | succ m =>
        rw [List.take_succ_cons] at hL
        cases L with
        | nil => simp at hL
        | cons c r =>
          simp only [List.map_cons, List.cons.injEq] at hL
          obtain ⟨hc, hr⟩ := hL
          have hr0 : r ≠ [] := by
            intro e
            subst e
            have := congrArg List.length hr
            simp at this hle
            omega
          have pi := fun v => pi_neg c r hc hr0 v
          rw [hr] at pi
          simp only [List.drop_succ_cons, List.drop_zero, Nat.add_sub_cancel] at hdig e2
          have hv : nVal (45 :: s') = -(val (s'.take (nIn s')) : Nat) := by unfold nVal; rw [if_pos (by rfl)]; rfl
          constructor
          · rintro ⟨f1, f2, f3⟩
            have hm : m = nIn s' := by omega
            rw [pi]
            rw [hv] at f2 ⊢
            rw [hm]
            refine ⟨?_, rfl, by omega⟩
            rw [← hm]
            exact hdig.2 (by omega)
          · intro hf v hp
            obtain ⟨q1, q2, q3⟩ := (pi v).1 hp
            have hm := hdig.1 q1
            apply hf
            have hm2 : m = nIn s' := by omega
            refine ⟨by omega, ?_, ?_⟩
            · rw [hv, ← hm2]; omega
            · rw [hv]; omega
  · have p1 : nP1 s = 0 := by unfold nP1 nSg; rw [if_neg h45]
    rw [p1] at hdig e2 h12
    rw [List.drop_zero] at hdig e2
    rw [Nat.zero_add] at e2
    have hv : nVal s = (val (s.take (nIn s)) : Nat) := by unfold nVal; rw [if_neg h45]
    cases s with
    | nil => simp at hle; omega
    | cons c0 s' =>
      have hc0 : isd c0 = true := nIn_all (c0 :: s') c0 (by
        cases hq : nIn (c0 :: s') with
        | zero => omega
        | succ j => rw [List.take_succ_cons]; exact List.mem_cons_self ..)
      cases n with
      | zero => omega
      | succ m =>
        have hL' := hL
        rw [List.take_succ_cons] at hL
        cases L with
        | nil => simp at hL
        | cons c r =>
          simp only [List.map_cons, List.cons.injEq] at hL
          have hcd : 48 ≤ c.toNat ∧ c.toNat ≤ 57 := by rw [hL.1]; simpa [isd] using hc0
          have pi := fun v => pi_pos c r (by omega) (by omega) v
          rw [hL'] at pi
          rw [Nat.sub_zero] at hdig
          constructor
          · rintro ⟨f1, f2, f3⟩
            have hm : m + 1 = nIn (c0 :: s') := by omega
            rw [pi]
            rw [hv] at f3 ⊢
            refine ⟨hdig.2 (by omega), by rw [hm], ?_⟩
            rw [hm]; omega
          · intro hf v hp
            obtain ⟨q1, q2, q3⟩ := (pi v).1 hp
            have hm := hdig.1 q1
            apply hf
            have hm2 : m + 1 = nIn (c0 :: s') := by omega
            refine ⟨by omega, ?_, ?_⟩
            · rw [hv]; omega
            · rw [hv, ← hm2]; omega
end Go.Proofs.YtgmdjofnkbaflaaGreatDoor.Jr

/- The program's reader: a number. -/
namespace Go.Proofs.YtgmdjofnkbaflaaGreatDoor
open Go.RowKit
set_option linter.unusedVariables false
set_option maxRecDepth 100000

/-- A variable that holds an error, or none. -/
def ErrAt (w : World) (g : Nat) : Prop := ∃ ev, w.cell? ⟨g, 0, none⟩ = some ev ∧ (ev = .nilIface ∨ ∃ te pe, ev = .iface te pe)
/-- The library's two errors lie in their places. -/
def TabE (w : World) : Prop := ErrAt w 4 ∧ ErrAt w 5
def TabEAt (B : Nat) : Prop := 4 < B ∧ 5 < B
theorem cell_lt {w : World} {p : Addr} {v : Value} (h : w.cell? p = some v) : p.block < w.heap.size := by
  rcases Nat.lt_or_ge p.block w.heap.size with hlt | hge
  · exact hlt
  · simp [World.cell?, Array.getElem?_eq_none hge] at h
theorem TabE.size {w : World} (h : TabE w) : TabEAt w.heap.size := by
  obtain ⟨⟨_, h1, _⟩, ⟨_, h2, _⟩⟩ := h
  exact ⟨cell_lt h1, cell_lt h2⟩
theorem TabE.below {w w' : World} {B : Nat} (h : TabE w) (hB : TabEAt B) (hb : Below B w w') : TabE w' := by
  obtain ⟨⟨e1, h1, k1⟩, ⟨e2, h2, k2⟩⟩ := h
  exact ⟨⟨e1, (hb.cell (p := ⟨4, 0, none⟩) hB.1).trans h1, k1⟩, ⟨e2, (hb.cell (p := ⟨5, 0, none⟩) hB.2).trans h2, k2⟩⟩
theorem TabE.later {w w' : World} (h : TabE w) (hb : Below w.heap.size w w') : TabE w' := h.below h.size hb
theorem parse_ok (X : ByteArray) (hX : X.size ≤ 1048576) (v : Int) (h : Lib.parseIntB 64 X.data.toList = .ok v) (w : World) :
    Calls Tryz.prog 116 #[.string X, .int .i64 10, .int .i64 64] w fun e w' => e = .returned (.tuple #[.int .i64 v, .nilIface]) ∧ Below w.heap.size w w' :=
  (Tryz.strconv_ParseInt_10_at64_ok X (by omega) v h w).mono fun e w' ⟨h1, h2⟩ => ⟨h1, by
    rcases h2 with rfl | ⟨t, rfl⟩
    · exact Below.refl _ _
    · exact Lib.bytesWorld_below _ _ _⟩
theorem parse_no (X : ByteArray) (hX : X.size ≤ 1048576) (h : ∀ v, Lib.parseIntB 64 X.data.toList ≠ .ok v) (w : World) (T : TabE w) :
    Calls Tryz.prog 116 #[.string X, .int .i64 10, .int .i64 64] w fun e w' => ∃ z N, e = .returned (.tuple #[.int .i64 z, .iface 209 (.pointer (some ⟨N, 0, none⟩))]) ∧ Below w.heap.size w w' := by
  obtain ⟨⟨e1, h1, k1⟩, ⟨e2, h2, k2⟩⟩ := T
  cases he : Lib.parseIntB 64 X.data.toList with
  | ok v => exact absurd he (h v)
  | «range» => exact (Tryz.strconv_ParseInt_10_at64_range X (by omega) he e2 w h2 k2).mono fun e w' ⟨N, h3, _, _, h4⟩ => ⟨_, N, h3, h4⟩
  | _ => exact (Any.strconv_ParseInt_10_at64_syntax Tryz.laysC174 X (by omega) he e1 w h1 k1).mono fun e w' ⟨N, h3, _, _, h4⟩ => ⟨_, N, h3, h4⟩
theorem left_take {S : ByteArray} {a n : Nat} (h : a + n ≤ S.size) : bl (S.extract a (a + n)) = (left S a).take n := by
  rw [bl_extract, show a + n - a = n by omega]
set_option maxHeartbeats 8000000 in
theorem jtakeNumber {w : World} {B g : Nat} {S : ByteArray} {t : Jr.St} {ov tv : Value} {O : List Op1} (h : PS w B g S t ov tv O) (T : TabE w) (hTB : TabEAt B) (hm : S.size ≤ 1048576) (hc : Jr.cnt t.op t.root < 4000) :
    Calls Tryz.prog 78 #[.pointer (some ⟨g, 0, none⟩)] w fun e w' => e = .returned (.int .i64 (code (Jr.number t))) ∧ After w B g S (Jr.number t) w' := by
  obtain ⟨n, b, hs⟩ : ∃ n b, Jr.scan t.s = (n, b) := ⟨_, _, rfl⟩
  have hle := h.le
  have CS := Lib.hid (jskipNumber h.rp h.le hm n b (by rw [← h.s]; exact hs))
  obtain ⟨q, hq⟩ : ∃ q, q = t.at_ + n := ⟨_, rfl⟩
  rw [← hq] at CS
  obtain ⟨_, c1, _⟩ := h.rp.lie
  have HS := Lib.hid hs
  have H := Lib.hid h
  have HT := Lib.hid T
  have HQ := Lib.hid hq
  clear h hs T
  go_enter Tryz.func78, Tryz.ntmps78
  go_wp2_with fail
  ((with_reducible refine (CS.out).mono ?_); rintro e w1 ⟨rfl, hw, hn⟩)
  have HW := Lib.hid hw
  have HU := Lib.hid (PS.went (u := { t with at_ := q, s := left S q }) H.out hw rfl rfl rfl hn)
  have HB1 := Lib.hid (hw.below H.out.gB H.out.wB)
  clear hw CS
  cases b with
  | false =>
    have HE : Hid (Jr.number t = .inr (.err q 70)) := Lib.hid (by unfold Jr.number; rw [HS.out, hq]; rfl)
    clear hq
    go_wp2_with fail
    go_ret
    rw [HE.out]
    exact ⟨rfl, HB1.out, _, _, _, _, HU.out.rp⟩
  | true =>
    have ha0 : t.at_ ≤ q := by omega
    have ha1 : (t.at_ : Int) ≤ q := by omega
    have ha2 : (q : Int) ≤ S.size := by omega
    obtain ⟨d0, d1, _⟩ := HU.out.rp.lie
    have htk : bl (S.extract t.at_ q) = t.s.take n := by rw [hq, left_take (by omega), H.out.s]
    have hsz : (S.extract t.at_ q).size ≤ 1048576 := by rw [ByteArray.size_extract]; omega
    have hTK := Jr.token HS.out htk
    have HT1 := Lib.hid (HT.out.below hTB HB1.out)
    have f1 := Blk.frozen HU.out.rp 1
    by_cases hf : Jr.fits t.s
    · have CP := Lib.hid (parse_ok _ hsz _ (hTK.1 hf) w1.drew)
      have HE : Hid (Jr.number t = .inl (Jr.leaf t n 4 (Jr.nVal t.s) ⟨#[]⟩)) := Lib.hid (by unfold Jr.number; rw [HS.out, if_neg (by simp), if_pos hf])
      clear hTK htk hf hsz hq
      go_wp2_with fail
      go_region_with ((go_at_call 116; (with_reducible refine (CP.out).mono ?_); rintro e w2 ⟨rfl, b⟩))
      all_goals
        have b : Below w1.heap.size w1 w2 := (Below.refl _ _).drew.trans b
        have HU2 := Lib.hid (HU.out.later b)
        have HB2 := Lib.hid (HB1.out.trans (b.mono HU.out.wB))
        have CN := Lib.hid (mkNum (Jr.nVal t.s) w2)
        clear b CP
        go_wp2_with fail
        ((with_reducible refine (CN.out).mono ?_); rintro e w4 ⟨v, rfl, ho, b⟩)
        have H4 := Lib.hid (HU2.out.later b)
        have HO4 := Lib.hid ho
        have CP := Lib.hid (jput H4.out.rp H4.out.tape ho (fun k hk hk' => by have := (ho.lt k hk).1; have := (HU2.out.tape.lt k hk').2; omega) (by rw [Jr.zf_len]; show Jr.cnt t.op t.root ≤ 5000; omega) H4.out.wB)
        have HB4 := Lib.hid (HB2.out.trans (b.mono HU2.out.wB))
        clear ho b CN
        go_wp2_with fail
        ((with_reducible refine (CP.out).mono ?_); rintro e w5 ⟨rfl, hp⟩)
        have HP := Lib.hid hp
        clear hp
        go_wp2_with fail
        go_ret
        rw [HE.out]
        refine ⟨rfl, After.before HB4.out (leaf_after H4.out rfl rfl H.out.s HO4.out HU2.out.wB hc (by have := HQ.out; omega) ?_)⟩
        have := HP.out
        rw [HQ.out] at this
        exact this
    · have CP := Lib.hid (parse_no _ hsz (hTK.2 hf) w1.drew HT1.out)
      have HE : Hid (Jr.number t = .inr (.err t.at_ 73)) := Lib.hid (by unfold Jr.number; rw [HS.out, if_neg (by simp), if_neg hf])
      clear hTK htk hf hsz hq
      go_wp2_with fail
      go_region_with ((go_at_call 116; (with_reducible refine (CP.out).mono ?_); rintro e w2 ⟨z, N, rfl, b⟩))
      all_goals
        have b : Below w1.heap.size w1 w2 := (Below.refl _ _).drew.trans b
        have HU2 := Lib.hid (HU.out.later b)
        have HB2 := Lib.hid (HB1.out.trans (b.mono HU.out.wB))
        have f1 := Blk.frozen HU2.out.rp 1
        obtain ⟨_, d1, _⟩ := HU2.out.rp.lie
        clear b CP
        go_wp2_with fail
        go_ret
        rw [HE.out]
        refine ⟨rfl, HB2.out.trans ((Touch.below (touchG w2 g 1 _) (Nat.le_trans H.out.wB HB2.out.size) (fun i hi => by rw [hi]; exact H.out.gB))), _, _, _, _, HU2.out.rp.putA t.at_⟩
end Go.Proofs.YtgmdjofnkbaflaaGreatDoor

/- The program's reader: a value. -/
namespace Go.Proofs.YtgmdjofnkbaflaaGreatDoor
open Go.RowKit
set_option linter.unusedVariables false
set_option maxRecDepth 100000

theorem word_after {w2 w3 : World} {B C g : Nat} {S W : ByteArray} {t : Jr.St} {ov tv v : Value} {O : List Op1} {k : Int} {e : Ending} (h : PS w2 B g S t ov tv O) (hv : OwnN w2 C v [nd1 k 0 ⟨#[]⟩]) (hC : B ≤ C) (hc : Jr.cnt t.op t.root < 4000)
    (hw : WordEnd w2 B g t.at_ S t.key (nxn t.nx) ov tv v (Jr.zf id t.op t.root) (nd1 k 0 ⟨#[]⟩) W e w3) : e = .returned (.int .i64 (code (Jr.word t (bl W) k))) ∧ After w2 B g S (Jr.word t (bl W) k) w3 := by
  unfold WordEnd at hw
  unfold Jr.word
  rw [h.s, bl_length]
  rcases hw with ⟨e1, rfl, h1, h2⟩ | ⟨e1, rfl, h1⟩
  · rw [if_pos e1]
    exact ⟨rfl, leaf_after h rfl rfl h.s hv hC hc h1 h2⟩
  · rw [if_neg e1]
    exact ⟨rfl, h1.below h.gB h.wB, _, _, _, _, h1.1⟩
theorem OR.lt {w : World} {B : Nat} : ∀ {op : List Jr.Fr} {R : Fo} {O : List Op1}, OR w B op R O → ∀ x ∈ O, ∀ j, x.m = some j → j < w.heap.size
  | [], R, O, h, x, hx, j, hj => by
    have h : O = [] := h
    rw [h] at hx
    cases hx
  | f :: r, R, O, h, x, hx, j, hj => by
    obtain ⟨O', m, rfl, h1, h2⟩ := h
    rcases List.mem_append.1 hx with hx | hx
    · exact OR.lt h1 x hx j hj
    · have hx : x = ⟨Jr.cnt r R, Jr.endOf f.kind, m⟩ := by simpa using hx
      subst hx
      rcases h2 with ⟨_, rfl⟩ | ⟨_, i, e2, _, h4, _⟩
      · cases hj
      · have hj : m = some j := hj
        rw [e2] at hj
        injection hj with hj
        rw [← hj]
        exact h4.lt
def vBegins : ByteArray := ⟨#[110, 102, 116, 45, 34, 91, 123, 48, 49, 50, 51, 52, 53, 54, 55, 56, 57]⟩
theorem bgn_in (d : Nat) : Jr.bgn d = true ↔ d ∈ bl vBegins := by
  have e : bl vBegins = [110, 102, 116, 45, 34, 91, 123, 48, 49, 50, 51, 52, 53, 54, 55, 56, 57] := by decide
  rw [e]
  unfold Jr.bgn Jr.isd
  simp
  omega
set_option maxHeartbeats 8000000 in
theorem jtakeValue {w : World} {B g : Nat} {S : ByteArray} {t : Jr.St} {ov tv : Value} {O : List Op1} (h : PS w B g S t ov tv O) (T : Tab w) (TE : TabE w) (hTB : TabEAt B) (hm : S.size ≤ 1048576) (hX : TxOk S) :
    Calls Tryz.prog 34 #[.pointer (some ⟨g, 0, none⟩)] w fun e w' => e = .returned (.int .i64 (code (Jr.stepV t))) ∧ After w B g S (Jr.stepV t) w' := by
  obtain ⟨d, hd⟩ : ∃ d, Jr.hd (left S t.at_) = d := ⟨_, rfl⟩
  obtain ⟨b, hb⟩ : ∃ b, Jr.bgn d = b := ⟨_, rfl⟩
  have CS := Lib.hid (jstands h.rp h.le hm vBegins b (by rw [hd, ← hb]; exact bgn_in d))
  unfold vBegins at CS
  obtain ⟨N, hN⟩ : ∃ N, Jr.cnt t.op t.root = N := ⟨_, rfl⟩
  obtain ⟨ta, tc, rfl⟩ := rdv (Gn.Own.rd ndL h.tape) N (by rw [Jr.zf_len]; exact hN)
  obtain ⟨D, hD⟩ : ∃ D, t.op.length = D := ⟨_, rfl⟩
  obtain ⟨oa, oc, rfl⟩ := rdv (Gn.Own.rd opL h.opn) D (h.ors.len.trans hD)
  obtain ⟨_, _, _, _, c4, c5⟩ := h.rp.lie
  have H := Lib.hid h
  have HT := Lib.hid T
  have HTE := Lib.hid TE
  have HTB := Lib.hid hTB
  have HN := Lib.hid hN
  have HD := Lib.hid hD
  have HS : Hid (Jr.hd t.s = d) := Lib.hid (by rw [h.s]; exact hd)
  have HB := Lib.hid hb
  have C := Lib.hid (fun m => jhere (h.rp.drew m) h.le hm d hd)
  have HK : Hid (Jr.stepV t = if b = false then .inr (.err t.at_ 70) else if 4000 ≤ N then .inr (.err t.at_ 5) else if 64 ≤ D then .inr (.err t.at_ 72) else Jr.valueB t) := Lib.hid (by unfold Jr.stepV; rw [HS.out, hb, hN, hD])
  have hdin : d ≠ 0 → t.at_ < S.size := fun h0 => hd_in (S := S) (by rw [hd]; exact h0)
  have HI := Lib.hid hdin
  clear h T TE hTB hN hD hb hd hdin
  cases b
  case false =>
    have HE : Hid (Jr.stepV t = .inr (.err t.at_ 70)) := Lib.hid (by rw [HK.out, if_pos rfl])
    clear HK
    go_enter Tryz.func34, Tryz.ntmps34
    go_wp2_with fail
    ((with_reducible refine (CS.out).mono ?_); rintro e w1 ⟨rfl, m, rfl⟩)
    go_wp2_with fail
    go_ret
    rw [HE.out]
    exact ⟨rfl, (below_drewN (Below.refl _ _) m).mono H.out.wB, _, _, _, _, H.out.rp.drew m⟩
  case true =>
    by_cases hc : 4000 ≤ N
    · have hc1 : (4000 : Int) ≤ N := by omega
      have HE : Hid (Jr.stepV t = .inr (.err t.at_ 5)) := Lib.hid (by rw [HK.out, if_neg (by simp), if_pos hc])
      go_enter Tryz.func34, Tryz.ntmps34
      go_wp2_with fail
      ((with_reducible refine (CS.out).mono ?_); rintro e w1 ⟨rfl, m, rfl⟩)
      go_wp2_with fail
      go_ret
      rw [HE.out]
      exact ⟨rfl, (below_drewN (Below.refl _ _) m).mono H.out.wB, _, _, _, _, H.out.rp.drew m⟩
    · have hc1 : ¬ (4000 : Int) ≤ N := by omega
      by_cases hp : 64 ≤ D
      · have hp1 : (64 : Int) ≤ D := by omega
        have HE : Hid (Jr.stepV t = .inr (.err t.at_ 72)) := Lib.hid (by rw [HK.out, if_neg (by simp), if_neg hc, if_pos hp])
        go_enter Tryz.func34, Tryz.ntmps34
        go_wp2_with fail
        ((with_reducible refine (CS.out).mono ?_); rintro e w1 ⟨rfl, m, rfl⟩)
        go_wp2_with fail
        go_ret
        rw [HE.out]
        exact ⟨rfl, (below_drewN (Below.refl _ _) m).mono H.out.wB, _, _, _, _, H.out.rp.drew m⟩
      · have hp1 : ¬ (64 : Int) ≤ D := by omega
        have HE : Hid (Jr.stepV t = Jr.valueB t) := Lib.hid (by rw [HK.out, if_neg (by simp), if_neg hc, if_neg hp])
        go_enter Tryz.func34, Tryz.ntmps34
        go_wp2_with fail
        ((with_reducible refine (CS.out).mono ?_); rintro e w1 ⟨rfl, m, rfl⟩)
        have C := Lib.hid (C.out m)
        go_wp2_with fail
        ((with_reducible refine (C.out).mono ?_); rintro e w2 ⟨rfl, m', rfl⟩)
        obtain ⟨w3, hw3⟩ : ∃ w3, w3 = (w.drewN m).drewN m' := ⟨_, rfl⟩
        rw [← hw3]
        have b3 : Below w.heap.size w w3 := by rw [hw3]; exact below_drewN (below_drewN (Below.refl _ _) m) m'
        have H3 := Lib.hid (H.out.later b3)
        have T3 := Lib.hid (HT.out.later b3)
        have E3 := Lib.hid (HTE.out.later b3)
        have B3 := Lib.hid (b3.mono H.out.wB)
        clear hw3 b3 c4 c5 C CS
        by_cases hd110 : d = 110
        case' pos =>
          have hHE : Hid (Jr.stepV t = Jr.word t (bl (⟨#[110, 117, 108, 108]⟩ : ByteArray)) 1) := Lib.hid (by rw [HE.out, show bl (⟨#[110, 117, 108, 108]⟩ : ByteArray) = [110, 117, 108, 108] by decide]; unfold Jr.valueB; rw [HS.out, if_pos hd110])
          have M := Lib.hid (mkNull w3)
          clear HE
          subst hd110
          go_wp2_with fail
          ((with_reducible refine (M.out).mono ?_); rintro e w4 ⟨v, rfl, ho, b⟩)
          have H4 := Lib.hid (H3.out.later b)
          have B4 := Lib.hid (B3.out.trans (b.mono H3.out.wB))
          have HO := Lib.hid ho
          have CW := Lib.hid (jtakeWord H4.out.rp H4.out.le hm H4.out.tape ho (fun k hk hk' => by have := (ho.lt k hk).1; have := (H3.out.tape.lt k hk').2; omega) (by rw [Jr.zf_len]; have := H4.out.cnt; omega) H4.out.wB ⟨#[110, 117, 108, 108]⟩ (by decide) (by decide))
          clear ho b M
          go_wp2_with fail
          ((with_reducible refine (CW.out).mono ?_); rintro e w5 hw)
          obtain ⟨rfl, HA⟩ := word_after H4.out HO.out H3.out.wB (by rw [HN.out]; omega) hw
          have HA := Lib.hid HA
          clear hw
          go_wp2_with fail
          go_ret
          rw [hHE.out]
          exact ⟨rfl, After.before B4.out HA.out⟩
        have hn110 : ((d : Int) == 110) = false := by simp; omega
        by_cases hd102 : d = 102
        case' pos =>
          have hHE : Hid (Jr.stepV t = Jr.word t (bl (⟨#[102, 97, 108, 115, 101]⟩ : ByteArray)) 2) := Lib.hid (by rw [HE.out, show bl (⟨#[102, 97, 108, 115, 101]⟩ : ByteArray) = [102, 97, 108, 115, 101] by decide]; unfold Jr.valueB; rw [HS.out, if_neg hd110, if_pos hd102])
          have M := Lib.hid (mkBool false w3)
          clear HE
          subst hd102
          go_wp2_with fail
          ((with_reducible refine (M.out).mono ?_); rintro e w4 ⟨v, rfl, ho, b⟩)
          have H4 := Lib.hid (H3.out.later b)
          have B4 := Lib.hid (B3.out.trans (b.mono H3.out.wB))
          have HO := Lib.hid ho
          have CW := Lib.hid (jtakeWord H4.out.rp H4.out.le hm H4.out.tape ho (fun k hk hk' => by have := (ho.lt k hk).1; have := (H3.out.tape.lt k hk').2; omega) (by rw [Jr.zf_len]; have := H4.out.cnt; omega) H4.out.wB ⟨#[102, 97, 108, 115, 101]⟩ (by decide) (by decide))
          clear ho b M
          go_wp2_with fail
          ((with_reducible refine (CW.out).mono ?_); rintro e w5 hw)
          obtain ⟨rfl, HA⟩ := word_after H4.out HO.out H3.out.wB (by rw [HN.out]; omega) hw
          have HA := Lib.hid HA
          clear hw
          go_wp2_with fail
          go_ret
          rw [hHE.out]
          exact ⟨rfl, After.before B4.out HA.out⟩
        have hn102 : ((d : Int) == 102) = false := by simp; omega
        by_cases hd116 : d = 116
        case' pos =>
          have hHE : Hid (Jr.stepV t = Jr.word t (bl (⟨#[116, 114, 117, 101]⟩ : ByteArray)) 3) := Lib.hid (by rw [HE.out, show bl (⟨#[116, 114, 117, 101]⟩ : ByteArray) = [116, 114, 117, 101] by decide]; unfold Jr.valueB; rw [HS.out, if_neg hd110, if_neg hd102, if_pos hd116])
          have M := Lib.hid (mkBool true w3)
          clear HE
          subst hd116
          go_wp2_with fail
          ((with_reducible refine (M.out).mono ?_); rintro e w4 ⟨v, rfl, ho, b⟩)
          have H4 := Lib.hid (H3.out.later b)
          have B4 := Lib.hid (B3.out.trans (b.mono H3.out.wB))
          have HO := Lib.hid ho
          have CW := Lib.hid (jtakeWord H4.out.rp H4.out.le hm H4.out.tape ho (fun k hk hk' => by have := (ho.lt k hk).1; have := (H3.out.tape.lt k hk').2; omega) (by rw [Jr.zf_len]; have := H4.out.cnt; omega) H4.out.wB ⟨#[116, 114, 117, 101]⟩ (by decide) (by decide))
          clear ho b M
          go_wp2_with fail
          ((with_reducible refine (CW.out).mono ?_); rintro e w5 hw)
          obtain ⟨rfl, HA⟩ := word_after H4.out HO.out H3.out.wB (by rw [HN.out]; omega) hw
          have HA := Lib.hid HA
          clear hw
          go_wp2_with fail
          go_ret
          rw [hHE.out]
          exact ⟨rfl, After.before B4.out HA.out⟩
        have hn116 : ((d : Int) == 116) = false := by simp; omega
        by_cases hd34 : d = 34
        case' pos =>
          have hHE : Hid (Jr.stepV t = Jr.text t) := Lib.hid (by rw [HE.out]; unfold Jr.valueB; rw [HS.out, if_neg hd110, if_neg hd102, if_neg hd116, if_pos hd34])
          have CW := Lib.hid (jtakeText H3.out T3.out (hX.lit (a := t.at_) (by rw [← H.out.s, HS.out, hd34])) (by rw [HN.out]; omega))
          clear HE
          subst hd34
          go_wp2_with fail
          ((with_reducible refine (CW.out).mono ?_); rintro e w5 ⟨rfl, HA⟩)
          have HA := Lib.hid HA
          go_wp2_with fail
          go_ret
          rw [hHE.out]
          exact ⟨rfl, After.before B3.out HA.out⟩
        have hn34 : ((d : Int) == 34) = false := by simp; omega
        by_cases hd91 : d = 91
        case' pos =>
          have hHE : Hid (Jr.stepV t = .inl (Jr.opn t 6)) := Lib.hid (by rw [HE.out]; unfold Jr.valueB; rw [HS.out, if_neg hd110, if_neg hd102, if_neg hd116, if_neg hd34, if_pos hd91])
          have CW := jbegin (k := 6) (m := none) H3.out (by rw [HN.out]; omega) (by rw [HD.out]; omega) (HI.out (by omega)) hm (.inl ⟨rfl, rfl⟩)
          have e93 : ((Jr.endOf 6 : Nat) : Int) = 93 := rfl
          rw [e93] at CW
          have CW := Lib.hid CW
          clear HE e93
          subst hd91
          go_wp2_with fail
          ((with_reducible refine (CW.out).mono ?_); rintro e w5 ⟨rfl, HA⟩)
          have HA := Lib.hid HA
          go_wp2_with fail
          go_ret
          rw [hHE.out]
          exact ⟨rfl, After.before B3.out HA.out⟩
        have hn91 : ((d : Int) == 91) = false := by simp; omega
        by_cases hd123 : d = 123
        case' pos =>
          have hHE : Hid (Jr.stepV t = .inl (Jr.opn t 7)) := Lib.hid (by rw [HE.out]; unfold Jr.valueB; rw [HS.out, if_neg hd110, if_neg hd102, if_neg hd116, if_neg hd34, if_neg hd91, if_pos hd123])
          have hbn : Below w3.heap.size w3 (w3.alloc (.map #[] 0)) := up_new _ _
          have CW := jbegin (k := 7) (m := some w3.heap.size) (H3.out.later hbn) (by rw [HN.out]; omega) (by rw [HD.out]; omega) (HI.out (by omega)) hm (.inr ⟨rfl, _, rfl, H3.out.wB, IsSet.new w3, fun x hx e => absurd (OR.lt H3.out.ors x hx _ e) (Nat.lt_irrefl _)⟩)
          have e93 : ((Jr.endOf 7 : Nat) : Int) = 125 := rfl
          rw [e93] at CW
          have CW := Lib.hid CW
          have hmm := @run_makeMap Tryz.prog
          have HBN := Lib.hid (B3.out.trans (hbn.mono H3.out.wB))
          clear HE e93 hbn
          subst hd123
          go_wp2_with fail
          ((with_reducible refine (CW.out).mono ?_); rintro e w5 ⟨rfl, HA⟩)
          have HA := Lib.hid HA
          go_wp2_with fail
          go_ret
          rw [hHE.out]
          exact ⟨rfl, After.before HBN.out HA.out⟩
        have hn123 : ((d : Int) == 123) = false := by simp; omega
        have hHE : Hid (Jr.stepV t = Jr.number t) := Lib.hid (by rw [HE.out]; unfold Jr.valueB; rw [HS.out, if_neg hd110, if_neg hd102, if_neg hd116, if_neg hd34, if_neg hd91, if_neg hd123])
        have CW := Lib.hid (jtakeNumber H3.out E3.out HTB.out hm (by rw [HN.out]; omega))
        clear HE
        go_wp2_with fail
        ((with_reducible refine (CW.out).mono ?_); rintro e w5 ⟨rfl, HA⟩)
        have HA := Lib.hid HA
        go_wp2_with fail
        go_ret
        rw [hHE.out]
        exact ⟨rfl, After.before B3.out HA.out⟩
end Go.Proofs.YtgmdjofnkbaflaaGreatDoor

/- The program's reader: a whole text. -/
namespace Go.Proofs.YtgmdjofnkbaflaaGreatDoor
open Go.RowKit
set_option linter.unusedVariables false
set_option maxRecDepth 100000

/-- What holds of where a reading stands. -/
def Jr.Ok (t : Jr.St) : Prop := (t.nx = .key → ∃ f r, t.op = f :: r ∧ f.kind = 7) ∧ (t.nx = .part → ∃ f r, t.op = f :: r)
theorem Jr.Ok.plain {t : Jr.St} (h : t.nx ≠ .key) (h1 : t.nx ≠ .part) : Jr.Ok t := ⟨fun e => absurd e h, fun e => absurd e h1⟩
theorem Jr.Ok.ahead {t : Jr.St} {f : Jr.Fr} {r : List Jr.Fr} (ho : t.op = f :: r) (h : t.nx = Jr.ahead (f :: r)) : Jr.Ok t := by
  have h : t.nx = if f.kind = 7 then Jr.Nx.key else Jr.Nx.value := h
  by_cases hk : f.kind = 7
  · exact ⟨fun _ => ⟨f, r, ho, hk⟩, fun _ => ⟨f, r, ho⟩⟩
  · rw [if_neg hk] at h
    exact Jr.Ok.plain (by rw [h]; decide) (by rw [h]; decide)
theorem ahead_part (op : List Jr.Fr) : Jr.ahead op ≠ .part := by
  unfold Jr.ahead
  split
  · decide
  · split <;> decide
/-- A step goes on. -/
def Jr.Less (t u : Jr.St) : Prop := t.at_ < u.at_ ∨ (t.at_ = u.at_ ∧ t.nx = .part ∧ u.nx ≠ .part)
def Jr.StepOk (t : Jr.St) (r : Jr.St ⊕ Jr.Res) : Prop := match r with
  | .inl u => Jr.Ok u ∧ Jr.Less t u
  | .inr (.err _ e) => e ≠ 0
  | .inr (.ok _) => True
theorem leaf_ok {t : Jr.St} {m : Nat} {k n : Int} {x : ByteArray} (hm : 0 < m) : Jr.StepOk t (.inl (Jr.leaf t m k n x)) :=
  ⟨Jr.Ok.plain (by simp [Jr.leaf]) (by simp [Jr.leaf]), .inl (by show t.at_ < t.at_ + m; omega)⟩
theorem go_ok {t : Jr.St} {m : Nat} {x : Jr.Nx} (hm : 0 < m) (h : x ≠ .key) (h1 : x ≠ .part) : Jr.StepOk t (.inl (Jr.go t m x)) :=
  ⟨Jr.Ok.plain h h1, .inl (by show t.at_ < t.at_ + m; omega)⟩
theorem cls_ok {t : Jr.St} {f : Jr.Fr} {r : List Jr.Fr} (ho : t.op = f :: r) : Jr.StepOk t (.inl (Jr.cls t)) := by
  unfold Jr.cls
  rw [ho]
  exact ⟨Jr.Ok.plain (by simp) (by simp), .inl (by show t.at_ < t.at_ + 1; omega)⟩
theorem err_ok {t : Jr.St} {a : Nat} {e : Int} (h : e ≠ 0) : Jr.StepOk t (.inr (.err a e)) := h
theorem word_ok (t : Jr.St) (W : List Nat) (k : Int) (h : 0 < W.length) : Jr.StepOk t (Jr.word t W k) := by
  unfold Jr.word
  split
  · exact leaf_ok h
  · exact err_ok (by decide)
theorem opn_ok (t : Jr.St) (k : Int) : Jr.StepOk t (.inl (Jr.opn t k)) :=
  ⟨⟨fun e => by simp [Jr.opn] at e, fun _ => ⟨_, _, rfl⟩⟩, .inl (by show t.at_ < t.at_ + 1; omega)⟩
theorem step_ok {t : Jr.St} (hb : ∀ x ∈ t.s, x < 256) : Jr.StepOk t (Jr.stepS t) := by
  unfold Jr.stepS
  split
  · unfold Jr.stepV
    split
    · exact err_ok (by decide)
    split
    · exact err_ok (by decide)
    split
    · exact err_ok (by decide)
    unfold Jr.valueB
    split
    · exact word_ok _ _ _ (by decide)
    split
    · exact word_ok _ _ _ (by decide)
    split
    · exact word_ok _ _ _ (by decide)
    split
    · unfold Jr.text
      split
      · rename_i h
        exact err_ok (by omega)
      · rename_i h
        obtain ⟨l, n, x, hu⟩ : ∃ l n x, Utf.unq t.s = (l, n, x) := ⟨_, _, _, rfl⟩
        rw [hu] at h ⊢
        have hx : x = 0 := by simpa using h
        subst hx
        have := unq_fine hb hu
        exact leaf_ok (show 0 < n by omega)
    split
    · exact opn_ok _ _
    split
    · exact opn_ok _ _
    unfold Jr.number
    split
    · exact err_ok (by decide)
    split
    · rename_i h _
      obtain ⟨n, b, hs⟩ : ∃ n b, Jr.scan t.s = (n, b) := ⟨_, _, rfl⟩
      rw [hs] at h ⊢
      have hb1 : b = true := by simpa using h
      subst hb1
      obtain ⟨_, h1, h2, _⟩ := Jr.scan_digits t.s n hs
      exact leaf_ok (show 0 < n by omega)
    · exact err_ok (by decide)
  · rename_i hp
    unfold Jr.stepP
    split
    · exact err_ok (by decide)
    · rename_i f r ho
      split
      · exact cls_ok ho
      · exact ⟨Jr.Ok.ahead ho (by rw [← ho]; rfl), .inr ⟨by show t.at_ = t.at_ + 0; omega, hp, ahead_part _⟩⟩
  · unfold Jr.stepK
    split
    · exact err_ok (by decide)
    · split
      · exact err_ok (by decide)
      split
      · rename_i h
        exact err_ok (by omega)
      split
      · exact err_ok (by decide)
      · rename_i _ h _
        obtain ⟨l, n, x, hu⟩ : ∃ l n x, Utf.unq t.s = (l, n, x) := ⟨_, _, _, rfl⟩
        rw [hu] at h ⊢
        have hx : x = 0 := by simpa using h
        subst hx
        have := unq_fine hb hu
        exact ⟨Jr.Ok.plain (by simp) (by simp), .inl (by show t.at_ < t.at_ + n; omega)⟩
  · unfold Jr.stepC
    split
    · exact err_ok (by decide)
    · exact go_ok (by decide) (by decide) (by decide)
  · unfold Jr.stepB
    split
    · split
      · trivial
      · exact err_ok (by decide)
    · rename_i f r ho
      split
      · exact cls_ok ho
      split
      · exact err_ok (by decide)
      · exact ⟨Jr.Ok.ahead ho (by rw [← ho]; rfl), .inl (by show t.at_ < t.at_ + 1; omega)⟩
/-- How far it is. -/
def mu (g N : Nat) (w : World) : Nat := 2 * (N - (match w.cell? ⟨g, 1, none⟩ with | some (.int _ z) => z.toNat | _ => 0)) + (match w.cell? ⟨g, 2, none⟩ with | some (.int _ z) => if z = 1 then 1 else 0 | _ => 0)
theorem mu_ps {w : World} {B g : Nat} {S : ByteArray} {t : Jr.St} {ov tv : Value} {O : List Op1} (h : PS w B g S t ov tv O) : mu g S.size w = 2 * (S.size - t.at_) + (if t.nx = .part then 1 else 0) := by
  obtain ⟨_, c1, c2, _⟩ := h.rp.lie
  unfold mu
  rw [c1, c2]
  simp only [Int.toNat_natCast]
  cases t.nx <;> simp [nxn]
theorem mu_less {w w' : World} {B g : Nat} {S : ByteArray} {t u : Jr.St} {ov tv ov' tv' : Value} {O O' : List Op1} (h : PS w B g S t ov tv O) (h' : PS w' B g S u ov' tv' O') (hl : Jr.Less (Jr.skip t) u) : mu g S.size w' < mu g S.size w := by
  rw [mu_ps h, mu_ps h']
  have := h'.le
  have e : t.at_ ≤ (Jr.skip t).at_ := by show t.at_ ≤ t.at_ + _; omega
  rcases hl with hl | ⟨h1, h2, h3⟩
  · split <;> split <;> omega
  · have h2 : t.nx = .part := h2
    rw [if_pos h2, if_neg h3]
    omega
/-- What Parse leaves. -/
def ParseEnd (w : World) (r : Jr.Res) (e : Ending) (w' : World) : Prop := match r with
  | .err a n => e = .returned (.tuple #[.slice none 0 0, .int .i64 (a : Nat), .int .i64 n]) ∧ Below w.heap.size w w'
  | .ok F => ∃ v, e = .returned (.tuple #[v, .int .i64 0, .int .i64 0]) ∧ OwnN w' w.heap.size v (Tp.flat F) ∧ Below w.heap.size w w'
def Parsed (w : World) (l : List Nat) (e : Ending) (w' : World) : Prop := ∃ r, Jr.Reads l r ∧ ParseEnd w r e w'
/-- The loop's. -/
def PInv (W : World) (g : Nat) (S : ByteArray) (w : World) (t : Jr.St) (ov tv : Value) (O : List Op1) : Prop := PS w W.heap.size g S t ov tv O ∧ Jr.Steps (Jr.init (bl S)) t ∧ Jr.Ok t ∧ Below W.heap.size W w
theorem PInv.next {W w w2 w3 : World} {g : Nat} {S : ByteArray} {t u : Jr.St} {ov tv : Value} {O : List Op1} (h : PInv W g S w t ov tv O) (hb : Below W.heap.size w w2) (ha : After w2 W.heap.size g S (.inl u) w3) (hs : Jr.stepS (Jr.skip t) = .inl u) : ∃ ov' tv' O', PInv W g S w3 u ov' tv' O' ∧ mu g S.size w3 < mu g S.size w := by
  obtain ⟨b, ov', tv', O', h1⟩ := ha
  have hk := step_ok (t := Jr.skip t) (by intro x hx; have := List.mem_of_mem_drop hx; rw [h.1.s] at this; exact left_byte S _ x this)
  rw [hs] at hk
  exact ⟨ov', tv', O', ⟨h1, h.2.1.trans (.one hs), hk.1, (h.2.2.2.trans hb).trans b⟩, mu_less h.1 h1 hk.2⟩
theorem PInv.skip {W w w2 : World} {g : Nat} {S : ByteArray} {t : Jr.St} {ov tv : Value} {O : List Op1} (h : PInv W g S w t ov tv O) (hw : Went w w2 g S (t.at_ + Jr.nb t.s) (nxn t.nx) t.key ov tv) (hl : t.at_ + Jr.nb t.s ≤ S.size) : PS w2 W.heap.size g S (Jr.skip t) ov tv O ∧ Below W.heap.size w w2 :=
  ⟨PS.went (u := Jr.skip t) h.1 hw rfl rfl (by show t.s.drop _ = left S (t.at_ + _); rw [h.1.s, left_drop]) hl, hw.below h.1.gB h.1.wB⟩
theorem PInv.fails {W w w2 w3 : World} {g a : Nat} {n : Int} {S : ByteArray} {t : Jr.St} {ov tv : Value} {O : List Op1} (hm : S.size ≤ 1048576) (h : PInv W g S w t ov tv O) (hb : Below W.heap.size w w2) (ha : Below W.heap.size w2 w3) (hs : Jr.stepS (Jr.skip t) = .inr (.err a n)) : Parsed W (bl S) (.returned (.tuple #[.slice none 0 0, .int .i64 (a : Nat), .int .i64 n])) w3 := by
  refine ⟨.err a n, ?_, rfl, (h.2.2.2.trans hb).trans ha⟩
  unfold Jr.Reads
  rw [bl_length, if_neg (by omega)]
  exact ⟨t, h.2.1, hs⟩
theorem PInv.ends {W w w2 w3 : World} {g : Nat} {S : ByteArray} {t : Jr.St} {ov tv tv' : Value} {O : List Op1} {F : Fo} (hm : S.size ≤ 1048576) (h : PInv W g S w t ov tv O) (hb : Below W.heap.size w w2) (ha : Below W.heap.size w2 w3) (ht : OwnN w3 W.heap.size tv' (Tp.flat F)) (hs : Jr.stepS (Jr.skip t) = .inr (.ok F)) : Parsed W (bl S) (.returned (.tuple #[tv', .int .i64 0, .int .i64 0])) w3 := by
  refine ⟨.ok F, ?_, tv', rfl, ht, (h.2.2.2.trans hb).trans ha⟩
  unfold Jr.Reads
  rw [bl_length, if_neg (by omega)]
  exact ⟨t, h.2.1, hs⟩
end Go.Proofs.YtgmdjofnkbaflaaGreatDoor

/- The program's Parse. -/
namespace Go.Proofs.YtgmdjofnkbaflaaGreatDoor
open Go.RowKit
set_option linter.unusedVariables false
set_option maxRecDepth 100000

theorem jr_start (w : World) (S : ByteArray) (T : Tab w) : PInv w w.heap.size S (w.alloc (.cells #[.string S, .int .i64 0, .int .i64 0, .string ⟨#[]⟩, .slice none 0 0, .slice none 0 0] 62)) (Jr.init (bl S)) (.slice none 0 0) (.slice none 0 0) [] := by
  refine ⟨⟨?_, Gn.Own.nil .., Gn.Own.nil .., rfl, Nat.le_refl _, by simp, ?_, Nat.zero_le _, Nat.zero_le _, Nat.zero_le _, T.size⟩, .refl _, Jr.Ok.plain (by simp [Jr.init]) (by simp [Jr.init]), up_new _ _⟩
  · exact Blk.new w 62 #[.string S, .int .i64 0, .int .i64 0, .string ⟨#[]⟩, .slice none 0 0, .slice none 0 0]
  · show bl S = left S 0
    unfold left
    rw [List.drop_zero]
theorem part_after {w3 : World} {B g : Nat} {S : ByteArray} {t : Jr.St} {ov tv : Value} {O : List Op1} (h : PS w3 B g S t ov tv O) (m : Nat) (x : Jr.Nx) : After w3 B g S (.inl (Jr.go t 0 x)) ((w3.drewN m).setCell ⟨g, 2, none⟩ (.int .i64 (nxn x))) := by
  have hw : Went w3 ((w3.drewN m).setCell ⟨g, 2, none⟩ (.int .i64 (nxn x))) g S t.at_ (nxn x) t.key ov tv := ⟨(h.rp.drew m).putN _, (touchD w3 _ m).trans (touchG _ g 2 _) (fun i hi => .inl hi)⟩
  exact ⟨hw.below h.gB h.wB, ov, tv, O, PS.went (u := Jr.go t 0 x) h hw rfl rfl (by show t.s.drop 0 = left S (t.at_ + 0); rw [List.drop_zero]; exact h.s) h.le⟩
set_option maxHeartbeats 8000000 in
theorem jparse {w : World} (S : ByteArray) (T : Tab w) (TE : TabE w) (hX : TxOk S) : Calls Tryz.prog 12 #[.string S] w fun e w' => Parsed w (bl S) e w' := by
  have HT := Lib.hid T
  have HTE := Lib.hid TE
  by_cases hm : S.size ≤ 1048576
  case neg =>
    have hm1 : (1048576 : Int) < S.size := by omega
    have HR : Hid (Parsed w (bl S) (.returned (.tuple #[.slice none 0 0, .int .i64 ((0 : Nat) : Int), .int .i64 5])) w) := Lib.hid ⟨.err 0 5, by unfold Jr.Reads; rw [bl_length, if_pos (by omega)], rfl, Below.refl _ _⟩
    go_enter Tryz.func12, Tryz.ntmps12
    go_wp2_with fail
    go_step3
    go_wp2_with fail
    try rw [Exit.noGoto_ret]
    go_ret3
    exact HR.out
  case pos =>
    have hm1 : ¬ (1048576 : Int) < S.size := by omega
    have HM := Lib.hid hm
    have HX := Lib.hid hX
    obtain ⟨w0, hw0⟩ : ∃ w0, w0 = w.alloc (.cells #[.string S, .int .i64 0, .int .i64 0, .string ⟨#[]⟩, .slice none 0 0, .slice none 0 0] 62) := ⟨_, rfl⟩
    have HI0 : Hid (PInv w w.heap.size S w0 (Jr.init (bl S)) (.slice none 0 0) (.slice none 0 0) []) := Lib.hid (by rw [hw0]; exact jr_start w S T)
    obtain ⟨g, hg⟩ : ∃ g, g = w.heap.size := ⟨_, rfl⟩
    have HG := Lib.hid hg
    have HW0 := Lib.hid hw0
    have HTB : Hid (TabAt w.heap.size) := Lib.hid T.size
    have HEB : Hid (TabEAt w.heap.size) := Lib.hid TE.size
    rw [← hg] at HI0
    clear hw0 hg T TE hX hm
    go_enter Tryz.func12, Tryz.ntmps12
    go_wp2_with fail
    go_step3
    go_wp2_with fail
    rw [← HW0.out, ← HG.out]
    go_step3
    go_wp2_with fail
    go_loopw [4] (fun iv wx => iv = .int .i64 0 ∧ ∃ t ov tv O, Hid (PInv w g S wx t ov tv O)) (fun _ wx => mu g S.size wx)
    case atStart => exact ⟨rfl, _, _, _, _, HI0⟩
    case round =>
      obtain ⟨rfl, t, ov, tv, O, HP⟩ := hrel
      have CB := Lib.hid (jskipBlanks HP.out.1.rp HP.out.1.le HM.out (Jr.nb t.s) (by rw [HP.out.1.s]))
      go_wp2_with fail
      ((with_reducible refine (CB.out).mono ?_); rintro e w2 ⟨rfl, hwt, hwl⟩)
      obtain ⟨h2, hb2⟩ := HP.out.skip hwt hwl
      have H2 := Lib.hid h2
      have HB2 := Lib.hid hb2
      have T2 := Lib.hid (HT.out.below HTB.out (HP.out.2.2.2.trans hb2))
      have E2 := Lib.hid (HTE.out.below HEB.out (HP.out.2.2.2.trans hb2))
      obtain ⟨_, c1, c2, _, c4, c5⟩ := h2.rp.lie
      obtain ⟨r, hr⟩ : ∃ r, Jr.stepS (Jr.skip t) = r := ⟨_, rfl⟩
      have HK : Hid (Jr.StepOk (Jr.skip t) r) := Lib.hid (by rw [← hr]; exact step_ok (by rw [h2.s]; exact left_byte S _))
      have HR := Lib.hid hr
      obtain ⟨x, hx⟩ : ∃ x, (Jr.skip t).nx = x := ⟨_, rfl⟩
      have D2 : Hid (w2.cell? ⟨g, 2, none⟩ = some (.int .i64 (nxn x))) := Lib.hid (by rw [← hx]; exact c2)
      have HN : Hid ((Jr.skip t).nx = x) := Lib.hid hx
      clear h2 hb2 hwt hwl hr CB hx c2
      cases x
      case value =>
        have d2 : w2.cell? ⟨g, 2, none⟩ = some (.int .i64 0) := D2.out
        have CV : Hid (Calls Tryz.prog 34 #[.pointer (some ⟨g, 0, none⟩)] w2 fun e w' => e = .returned (.int .i64 (code r)) ∧ After w2 w.heap.size g S r w') := Lib.hid (by
          have h := jtakeValue H2.out T2.out E2.out HEB.out HM.out HX.out
          have e : Jr.stepV (Jr.skip t) = r := by rw [← HR.out]; unfold Jr.stepS; rw [HN.out]
          rwa [e] at h)
        cases r with
        | inl u =>
          unfold code at CV
          go_wp2_with fail
          ((with_reducible refine (CV.out).mono ?_); rintro e w3 ⟨rfl, HA⟩)
          obtain ⟨ov', tv', O', HQ, hmu⟩ := HP.out.next HB2.out HA HR.out
          have HQ := Lib.hid HQ
          have HMU := Lib.hid hmu
          clear HA hmu CV
          go_wp2_with fail
          go_roundw
          case rel => exact ⟨rfl, _, _, _, _, HQ⟩
          case measure => exact HMU.out
        | inr q =>
          cases q with
          | ok F =>
            go_wp2_with fail
            ((with_reducible refine (CV.out).mono ?_); rintro e w3 ⟨rfl, HA⟩)
            exact absurd HA.2 id
          | err a n =>
            have hn0 : n ≠ 0 := HK.out
            have hn1 : (n != 0) = true := by simp; omega
            unfold code at CV
            go_wp2_with fail
            ((with_reducible refine (CV.out).mono ?_); rintro e w3 ⟨rfl, HA⟩)
            have HF := Lib.hid (fun m => HP.out.fails HM.out HB2.out (below_drewN HA.1 m) HR.out)
            obtain ⟨_, _, _, _, _, hrp⟩ := HA
            obtain ⟨_, d1, _⟩ := hrp.lie
            clear hrp CV hn0 c1 c4 c5
            go_wp2_with fail
            go_quiet (fail)
            go_wp2_with fail
            go_ret3
            exact HF.out nq
      case key =>
        have d2 : w2.cell? ⟨g, 2, none⟩ = some (.int .i64 2) := D2.out
        obtain ⟨f, rr, hop, hk7⟩ := HP.out.2.2.1.1 HN.out
        have CV : Hid (Calls Tryz.prog 37 #[.pointer (some ⟨g, 0, none⟩)] w2 fun e w' => e = .returned (.int .i64 (code r)) ∧ After w2 w.heap.size g S r w') := Lib.hid (by
          have h := jtakeKey H2.out hop hk7 HM.out HX.out T2.out
          have e : Jr.stepK (Jr.skip t) = r := by rw [← HR.out]; unfold Jr.stepS; rw [HN.out]
          rwa [e] at h)
        clear hop hk7
        cases r with
        | inl u =>
          unfold code at CV
          go_wp2_with fail
          ((with_reducible refine (CV.out).mono ?_); rintro e w3 ⟨rfl, HA⟩)
          obtain ⟨ov', tv', O', HQ, hmu⟩ := HP.out.next HB2.out HA HR.out
          have HQ := Lib.hid HQ
          have HMU := Lib.hid hmu
          clear HA hmu CV
          go_wp2_with fail
          go_roundw
          case rel => exact ⟨rfl, _, _, _, _, HQ⟩
          case measure => exact HMU.out
        | inr q =>
          cases q with
          | ok F =>
            go_wp2_with fail
            ((with_reducible refine (CV.out).mono ?_); rintro e w3 ⟨rfl, HA⟩)
            exact absurd HA.2 id
          | err a n =>
            have hn0 : n ≠ 0 := HK.out
            have hn1 : (n != 0) = true := by simp; omega
            unfold code at CV
            go_wp2_with fail
            ((with_reducible refine (CV.out).mono ?_); rintro e w3 ⟨rfl, HA⟩)
            have HF := Lib.hid (fun m => HP.out.fails HM.out HB2.out (below_drewN HA.1 m) HR.out)
            obtain ⟨_, _, _, _, _, hrp⟩ := HA
            obtain ⟨_, d1, _⟩ := hrp.lie
            clear hrp CV hn0 c1 c4 c5
            go_wp2_with fail
            go_quiet (fail)
            go_wp2_with fail
            go_ret3
            exact HF.out nq
      case colon =>
        have d2 : w2.cell? ⟨g, 2, none⟩ = some (.int .i64 3) := D2.out
        have CV : Hid (Calls Tryz.prog 38 #[.pointer (some ⟨g, 0, none⟩), .int .u8 58, .int .i64 0] w2 fun e w' => e = .returned (.int .i64 (code r)) ∧ After w2 w.heap.size g S r w') := Lib.hid (by
          have h := jtakeMark H2.out HM.out 58 (by decide) (by decide) .value
          have e : Jr.stepC (Jr.skip t) = r := by rw [← HR.out]; unfold Jr.stepS; rw [HN.out]
          unfold Jr.stepC at e
          rw [e] at h
          exact h)
        cases r with
        | inl u =>
          unfold code at CV
          go_wp2_with fail
          ((with_reducible refine (CV.out).mono ?_); rintro e w3 ⟨rfl, HA⟩)
          obtain ⟨ov', tv', O', HQ, hmu⟩ := HP.out.next HB2.out HA HR.out
          have HQ := Lib.hid HQ
          have HMU := Lib.hid hmu
          clear HA hmu CV
          go_wp2_with fail
          go_roundw
          case rel => exact ⟨rfl, _, _, _, _, HQ⟩
          case measure => exact HMU.out
        | inr q =>
          cases q with
          | ok F =>
            go_wp2_with fail
            ((with_reducible refine (CV.out).mono ?_); rintro e w3 ⟨rfl, HA⟩)
            exact absurd HA.2 id
          | err a n =>
            have hn0 : n ≠ 0 := HK.out
            have hn1 : (n != 0) = true := by simp; omega
            unfold code at CV
            go_wp2_with fail
            ((with_reducible refine (CV.out).mono ?_); rintro e w3 ⟨rfl, HA⟩)
            have HF := Lib.hid (fun m => HP.out.fails HM.out HB2.out (below_drewN HA.1 m) HR.out)
            obtain ⟨_, _, _, _, _, hrp⟩ := HA
            obtain ⟨_, d1, _⟩ := hrp.lie
            clear hrp CV hn0 c1 c4 c5
            go_wp2_with fail
            go_quiet (fail)
            go_wp2_with fail
            go_ret3
            exact HF.out nq
      case part =>
        have d2 : w2.cell? ⟨g, 2, none⟩ = some (.int .i64 1) := D2.out
        obtain ⟨f, rr, hop⟩ := HP.out.2.2.1.2 HN.out
        have hop : (Jr.skip t).op = f :: rr := hop
        have CE := Lib.hid (jtakeEnd H2.out hop HM.out)
        have HOP := Lib.hid hop
        have HS : Hid (r = if Jr.hd (Jr.skip t).s = Jr.endOf f.kind then .inl (Jr.cls (Jr.skip t)) else .inl (Jr.go (Jr.skip t) 0 (Jr.ahead (Jr.skip t).op))) := Lib.hid (by rw [← HR.out]; unfold Jr.stepS Jr.stepP; rw [HN.out, hop])
        clear hop
        go_wp2_with fail
        ((with_reducible refine (CE.out).mono ?_); rintro e w3 (⟨hy, rfl, HA⟩ | ⟨hy, rfl, h3, b3⟩))
        case inl =>
          have hs := HS.out
          rw [if_pos hy] at hs
          have HS1 := Lib.hid hs
          clear hs hy
          obtain ⟨ov', tv', O', HQ, hmu⟩ := HP.out.next HB2.out HA (HR.out.trans HS1.out)
          have HQ := Lib.hid HQ
          have HMU := Lib.hid hmu
          clear HA hmu CE
          go_wp2_with fail
          go_roundw
          case rel => exact ⟨rfl, _, _, _, _, HQ⟩
          case measure => exact HMU.out
        case inr =>
          have hs := HS.out
          rw [if_neg hy] at hs
          have HS1 := Lib.hid hs
          have CA := Lib.hid (jahead h3 HOP.out)
          have H3 := Lib.hid h3
          have B3 := Lib.hid b3
          clear hs hy CE h3 b3
          go_wp2_with fail
          ((with_reducible refine (CA.out).mono ?_); rintro e w4 ⟨rfl, m, rfl⟩)
          have f2 := Blk.frozen (H3.out.rp.drew m) 2
          obtain ⟨_, _, d3, _⟩ := (H3.out.rp.drew m).lie
          obtain ⟨ov', tv', O', HQ, hmu⟩ := HP.out.next HB2.out (After.before (B3.out.mono H2.out.wB) (part_after H3.out m (Jr.ahead (Jr.skip t).op))) (HR.out.trans HS1.out)
          have HQ := Lib.hid HQ
          have HMU := Lib.hid hmu
          clear hmu CA
          go_wp2_with fail
          go_roundw
          case rel => exact ⟨rfl, _, _, _, _, HQ⟩
          case measure => exact HMU.out
      case behind =>
        have d2 : w2.cell? ⟨g, 2, none⟩ = some (.int .i64 4) := D2.out
        obtain ⟨D, hD⟩ : ∃ D, (Jr.skip t).op.length = D := ⟨_, rfl⟩
        obtain ⟨oa, oc, rfl⟩ := rdv (Gn.Own.rd opL H2.out.opn) D (H2.out.ors.len.trans hD)
        cases hop : (Jr.skip t).op with
        | nil =>
          obtain rfl : D = 0 := by rw [← hD, hop]; rfl
          by_cases hl : (Jr.skip t).at_ < S.size
          · have hl1 : ((Jr.skip t).at_ : Int) < S.size := by omega
            have HS : Hid (Jr.stepS (Jr.skip t) = .inr (.err (Jr.skip t).at_ 70)) := Lib.hid (by
              unfold Jr.stepS Jr.stepB
              rw [HN.out, hop]
              simp only
              rw [if_neg (by rw [H2.out.s]; intro e; have := left_len S (Jr.skip t).at_; rw [e] at this; simp at this; omega)])
            have HF := Lib.hid (fun m => HP.out.fails HM.out HB2.out (below_drewN (Below.refl _ w2) m) HS.out)
            clear hD hop
            go_wp2_with fail
            go_quiet (fail)
            go_wp2_with fail
            go_ret3
            exact HF.out nq
          · have hl1 : ¬ ((Jr.skip t).at_ : Int) < S.size := by omega
            have HS : Hid (Jr.stepS (Jr.skip t) = .inr (.ok (Jr.skip t).root)) := Lib.hid (by
              unfold Jr.stepS Jr.stepB
              rw [HN.out, hop]
              simp only
              rw [if_pos (by rw [H2.out.s]; exact List.eq_nil_of_length_eq_zero (by rw [left_len]; omega))])
            have HF := Lib.hid (HP.out.ends (tv' := tv) HM.out HB2.out (Below.refl _ _) (by have := H2.out.tape; rw [hop] at this; exact this) HS.out)
            clear hD hop
            go_wp2_with fail
            go_ret3
            exact HF.out
        | cons f rr =>
          have hD0 : ((D : Int) == 0) = false := by rw [hop] at hD; simp at hD; simp; omega
          have CE := Lib.hid (jtakeEnd H2.out hop HM.out)
          have HOP := Lib.hid hop
          have HS : Hid (r = if Jr.hd (Jr.skip t).s = Jr.endOf f.kind then .inl (Jr.cls (Jr.skip t)) else if Jr.hd (Jr.skip t).s ≠ 44 then .inr (.err (Jr.skip t).at_ 70) else .inl (Jr.go (Jr.skip t) 1 (Jr.ahead (Jr.skip t).op))) := Lib.hid (by rw [← HR.out]; unfold Jr.stepS Jr.stepB; rw [HN.out, hop])
          clear hop hD
          go_wp2_with fail
          ((with_reducible refine (CE.out).mono ?_); rintro e w3 (⟨hy, rfl, HA⟩ | ⟨hy, rfl, h3, b3⟩))
          case inl =>
            have hs := HS.out
            rw [if_pos hy] at hs
            have HS1 := Lib.hid hs
            clear hs hy
            obtain ⟨ov', tv', O', HQ, hmu⟩ := HP.out.next HB2.out HA (HR.out.trans HS1.out)
            have HQ := Lib.hid HQ
            have HMU := Lib.hid hmu
            clear HA hmu CE
            go_wp2_with fail
            go_roundw
            case rel => exact ⟨rfl, _, _, _, _, HQ⟩
            case measure => exact HMU.out
          case inr =>
            have hs := HS.out
            rw [if_neg hy] at hs
            have CA := Lib.hid (jahead h3 HOP.out)
            have CV : Hid (∀ m, Calls Tryz.prog 38 #[.pointer (some ⟨g, 0, none⟩), .int .u8 44, .int .i64 (nxn (Jr.ahead (Jr.skip t).op))] (w3.drewN m) fun e w' => e = .returned (.int .i64 (code r)) ∧ After (w3.drewN m) w.heap.size g S r w') := Lib.hid (fun m => by
              have h := jtakeMark (h3.drew m) HM.out 44 (by decide) (by decide) (Jr.ahead (Jr.skip t).op)
              rw [← hs] at h
              exact h)
            have B3 := Lib.hid (fun m => HB2.out.trans ((below_drewN b3 m).mono H2.out.wB))
            clear hs hy CE h3 b3
            go_wp2_with fail
            ((with_reducible refine (CA.out).mono ?_); rintro e w4 ⟨rfl, m, rfl⟩)
            have CV := Lib.hid (CV.out m)
            have B4 := Lib.hid (B3.out m)
            cases r with
            | inl u =>
              unfold code at CV
              go_wp2_with fail
              ((with_reducible refine (CV.out).mono ?_); rintro e w5 ⟨rfl, HA⟩)
              obtain ⟨ov', tv', O', HQ, hmu⟩ := HP.out.next B4.out HA HR.out
              have HQ := Lib.hid HQ
              have HMU := Lib.hid hmu
              clear HA hmu CV
              go_wp2_with fail
              go_roundw
              case rel => exact ⟨rfl, _, _, _, _, HQ⟩
              case measure => exact HMU.out
            | inr q =>
              cases q with
              | ok F =>
                go_wp2_with fail
                ((with_reducible refine (CV.out).mono ?_); rintro e w5 ⟨rfl, HA⟩)
                exact absurd HA.2 id
              | err a n =>
                have hn0 : n ≠ 0 := HK.out
                have hn1 : (n != 0) = true := by simp; omega
                unfold code at CV
                go_wp2_with fail
                ((with_reducible refine (CV.out).mono ?_); rintro e w5 ⟨rfl, HA⟩)
                have HF := Lib.hid (fun m => HP.out.fails HM.out B4.out (below_drewN HA.1 m) HR.out)
                obtain ⟨_, _, _, _, _, hrp⟩ := HA
                obtain ⟨_, d1, _⟩ := hrp.lie
                clear hrp CV hn0 c1 c4 c5
                go_wp2_with fail
                go_quiet (fail)
                go_wp2_with fail
                go_ret3
                exact HF.out nq
end Go.Proofs.YtgmdjofnkbaflaaGreatDoor

/- The law's: rows that are compared; a text that reads, or fails. -/
namespace Go.Proofs.YtgmdjofnkbaflaaGreatDoor
open Go.RowKit
set_option linter.unusedVariables false
set_option maxRecDepth 100000

set_option maxHeartbeats 4000000 in
theorem jlawEq (v1 v2 : Value) (l1 l2 : List Nd) (w : World) (h1 : RdN w w.heap.size v1 l1) (h2 : RdN w w.heap.size v2 l2) (hl : l1.length ≤ 1000000) (b : Bool) (hb : b = true ↔ l1 = l2) :
    Calls Tryz.prog 49 #[v1, v2] w fun e w' => e = .returned (.bool b) ∧ Below w.heap.size w w' := by
  have HR1 := Lib.hid h1
  have HR2 := Lib.hid h2
  have HB := Lib.hid hb
  obtain ⟨a1, c1, rfl, _⟩ := Gn.Rd.form h1
  obtain ⟨a2, c2, rfl, _⟩ := Gn.Rd.form h2
  clear h1 h2 hb
  by_cases hn : l1.length = l2.length
  · have hn' : ((l1.length : Int) != (l2.length : Nat)) = false := by simp; omega
    go_enter Tryz.func49, Tryz.ntmps49
    go_wp2_with fail
    go_loopw [5] (fun i wr => ∃ k : Nat, k ≤ l1.length ∧ i = .int .i64 (k : Nat) ∧ Hid (∀ j, j < k → l1[j]? = l2[j]?) ∧ Hid (Below w.heap.size w wr)) (fun i _ => l1.length - (intOf i).toNat)
    case atStart => exact ⟨0, by omega, by rfl, Lib.hid (fun j hj => by omega), Lib.hid (Below.refl _ _)⟩
    case round =>
      obtain ⟨k, hk, rfl, HE, HU⟩ := hrel
      by_cases hlt : k < l1.length
      · have hlt1 : (k : Int) < l1.length := by omega
        have hlt2 : (k : Int) < l2.length := by omega
        obtain ⟨x, hx⟩ : ∃ x, l1[k]? = some x := ⟨_, List.getElem?_eq_getElem hlt⟩
        obtain ⟨y, hy⟩ : ∃ y, l2[k]? = some y := ⟨_, List.getElem?_eq_getElem (by omega)⟩
        obtain ⟨b1, o1, rfl, p0, p1, p2, p3, p4⟩ := rdN_cells HR1.out HU.out.drew hx
        obtain ⟨b2, o2, rfl, q0, q1, q2, q3, q4⟩ := rdN_cells HR2.out HU.out.drew hy
        have heq := fun w => run_eqn x y w
        unfold ndv at heq
        have HU2 := Lib.hid HU.out.drew
        by_cases hxy : x = y
        · have e1 : eqn x y = true := (eqn_iff x y).2 hxy
          rw [e1] at heq
          have HE2 := Lib.hid (show ∀ j, j < k + 1 → l1[j]? = l2[j]? from fun j hj => by
            rcases Nat.lt_succ_iff_lt_or_eq.1 hj with h | rfl
            · exact HE.out j h
            · rw [hx, hy, hxy])
          clear hx hy hxy e1 hn
          go_wp2_with fail
          go_region
          all_goals
            go_wp2_with fail
            go_roundw
            case rel => exact ⟨k + 1, by omega, by go_num, HE2, HU2⟩
            case measure => simp [intOf]; omega
        · have e1 : eqn x y = false := by
            cases he : eqn x y with
            | false => rfl
            | true => exact absurd ((eqn_iff x y).1 he) hxy
          rw [e1] at heq
          obtain rfl : b = false := false_of HB.out (fun e => hxy (by rw [e, hy] at hx; injection hx with e; exact e.symm))
          clear hx hy hxy e1 hn
          go_wp2_with fail
          go_region
          all_goals
            go_wp2_with fail
            go_ret
            exact ⟨rfl, HU2.out⟩
      · have hlt1 : ¬ (k : Int) < l1.length := by omega
        have hbt : b = true := HB.out.2 (List.ext_getElem? fun j => by
          rcases Nat.lt_or_ge j k with h | h
          · exact HE.out j h
          · rw [List.getElem?_eq_none (by omega), List.getElem?_eq_none (by omega)])
        subst hbt
        clear hn
        go_wp2_with fail
        go_ret
        exact ⟨rfl, HU.out⟩
  · have hn' : ((l1.length : Int) != (l2.length : Nat)) = true := by simp; omega
    obtain rfl : b = false := false_of HB.out (fun e => hn (by rw [e]))
    clear hn
    go_enter Tryz.func49, Tryz.ntmps49
    go_wp2_with fail
    go_ret
    exact ⟨rfl, Below.refl _ _⟩
theorem parsed_only {w w' : World} {l : List Nat} {e : Ending} {r : Jr.Res} (h : Parsed w l e w') (hr : Jr.Reads l r) : ParseEnd w r e w' := by
  obtain ⟨q, h1, h2⟩ := h
  rwa [h1.only hr] at h2
set_option maxHeartbeats 2000000 in
theorem jfails (s : ByteArray) (a : Nat) (n : Int) (w : World) (T : Tab w) (TE : TabE w) (hX : TxOk s) (hr : Jr.Reads (bl s) (.err a n)) :
    Calls Tryz.prog 21 #[.string s, .int .i64 (a : Nat), .int .i64 n] w fun e w' => e = .returned (.bool true) ∧ Below w.heap.size w w' := by
  have C := Lib.hid (jparse s T TE hX)
  have HR := Lib.hid hr
  have q1 : ((a : Int) == a) = true := by simp
  have q2 : ((n : Int) == n) = true := by simp
  clear T TE hX hr
  go_enter Tryz.func21, Tryz.ntmps21
  go_wp2_with fail
  ((with_reducible refine (C.out).mono ?_); rintro e w2 hp)
  obtain ⟨rfl, hb⟩ := parsed_only hp HR.out
  have HB := Lib.hid hb
  clear hp hb C
  go_wp2_with fail
  go_ret
  exact ⟨rfl, HB.out⟩
set_option maxHeartbeats 4000000 in
theorem jreads (s : ByteArray) (F : Fo) (v : Value) (w : World) (T : Tab w) (TE : TabE w) (hX : TxOk s) (hr : Jr.Reads (bl s) (.ok F)) (hv : RdN w w.heap.size v (Tp.flat F)) (h0 : 0 < (Tp.flat F).length) (h1 : (Tp.flat F).length ≤ 1000000) :
    Calls Tryz.prog 19 #[.string s, v] w fun e w' => e = .returned (.bool true) ∧ Below w.heap.size w w' := by
  have C := Lib.hid (jparse s T TE hX)
  have HR := Lib.hid hr
  have HV := Lib.hid hv
  obtain ⟨N, hN⟩ : ∃ N, (Tp.flat F).length = N := ⟨_, rfl⟩
  obtain ⟨va, vc, rfl⟩ := rdv hv N hN
  have hN0 : (0 : Int) < N := by omega
  have HN := Lib.hid h1
  clear T TE hX hr hv h0 h1 hN
  go_enter Tryz.func19, Tryz.ntmps19
  go_wp2_with fail
  ((with_reducible refine (C.out).mono ?_); rintro e w2 hp)
  obtain ⟨u, rfl, ho, hb⟩ := parsed_only hp HR.out
  have HB := Lib.hid hb
  have CE := Lib.hid (jlawEq u _ _ _ w2 (Gn.Own.rd ndL ho) (Gn.Rd.later HV.out hb) HN.out true ⟨fun _ => rfl, fun _ => rfl⟩)
  clear hp hb ho C
  go_wp2_with fail
  ((with_reducible refine (CE.out).mono ?_); rintro e w3 ⟨rfl, hb⟩)
  have HB3 := Lib.hid (up HB.out hb)
  clear hb CE
  go_wp2_with fail
  go_ret
  exact ⟨rfl, HB3.out⟩
end Go.Proofs.YtgmdjofnkbaflaaGreatDoor

/- The law's examples. -/
namespace Go.Proofs.YtgmdjofnkbaflaaGreatDoor
open Go.RowKit
set_option linter.unusedVariables false
set_option maxRecDepth 100000

theorem reads_lit (X : ByteArray) (l : List Nat) (r : Jr.Res) (hl : bl X = l) (hs : l.length ≤ 1000) (h : Jr.run 60 (Jr.init l) = some r) : Jr.Reads (bl X) r := by
  unfold Jr.Reads
  rw [hl, if_neg (by omega)]
  exact Jr.run_ends 60 _ _ h
theorem jx0 : Jr.Reads (bl ⟨#[48, 49]⟩) (.err 1 70) := reads_lit _ [48, 49] _ (by rfl) (by decide) (by kernel_rfl)
theorem jx1 : Jr.Reads (bl ⟨#[49, 46, 53]⟩) (.err 0 73) := reads_lit _ [49, 46, 53] _ (by rfl) (by decide) (by kernel_rfl)
theorem jx2 : Jr.Reads (bl ⟨#[49, 46]⟩) (.err 2 70) := reads_lit _ [49, 46] _ (by rfl) (by decide) (by kernel_rfl)
theorem jx3 : Jr.Reads (bl ⟨#[45]⟩) (.err 1 70) := reads_lit _ [45] _ (by rfl) (by decide) (by kernel_rfl)
theorem jx4 : Jr.Reads (bl ⟨#[49, 101, 43, 51]⟩) (.err 0 73) := reads_lit _ [49, 101, 43, 51] _ (by rfl) (by decide) (by kernel_rfl)
theorem jx5 : Jr.Reads (bl ⟨#[57, 50, 50, 51, 51, 55, 50, 48, 51, 54, 56, 53, 52, 55, 55, 53, 56, 48, 56]⟩) (.err 0 73) := reads_lit _ [57, 50, 50, 51, 51, 55, 50, 48, 51, 54, 56, 53, 52, 55, 55, 53, 56, 48, 56] _ (by rfl) (by decide) (by kernel_rfl)
theorem jx6 : Jr.Reads (bl ⟨#[91, 49, 44, 93]⟩) (.err 3 70) := reads_lit _ [91, 49, 44, 93] _ (by rfl) (by decide) (by kernel_rfl)
theorem jx7 : Jr.Reads (bl ⟨#[123, 34, 97, 34, 58, 49, 44, 34, 97, 34, 58, 50, 125]⟩) (.err 7 71) := reads_lit _ [123, 34, 97, 34, 58, 49, 44, 34, 97, 34, 58, 50, 125] _ (by rfl) (by decide) (by kernel_rfl)
theorem jx8 : Jr.Reads (bl ⟨#[91, 34, 92, 120, 34, 93]⟩) (.err 1 41) := reads_lit _ [91, 34, 92, 120, 34, 93] _ (by rfl) (by decide) (by kernel_rfl)
theorem jx9 : Jr.Reads (bl ⟨#[116, 114, 117]⟩) (.err 3 70) := reads_lit _ [116, 114, 117] _ (by rfl) (by decide) (by kernel_rfl)
theorem jx10 : Jr.Reads (bl ⟨#[]⟩) (.err 0 70) := reads_lit _ [] _ (by rfl) (by decide) (by kernel_rfl)
theorem jx11 : Jr.Reads (bl ⟨#[91, 49, 93, 32, 50]⟩) (.err 4 70) := reads_lit _ [91, 49, 93, 32, 50] _ (by rfl) (by decide) (by kernel_rfl)
theorem jx12 : Jr.Reads (bl ⟨#[123, 34, 97, 34, 32, 49, 125]⟩) (.err 5 70) := reads_lit _ [123, 34, 97, 34, 32, 49, 125] _ (by rfl) (by decide) (by kernel_rfl)
theorem jx13 : Jr.Reads (bl ⟨#[91, 91, 49, 46, 48, 120]⟩) (.err 2 73) := reads_lit _ [91, 91, 49, 46, 48, 120] _ (by rfl) (by decide) (by kernel_rfl)
theorem jx14 : Jr.Reads (bl ⟨#[91, 49, 32, 120]⟩) (.err 3 70) := reads_lit _ [91, 49, 32, 120] _ (by rfl) (by decide) (by kernel_rfl)
theorem jx15 : Jr.Reads (bl ⟨#[34, 97]⟩) (.err 0 3) := reads_lit _ [34, 97] _ (by rfl) (by decide) (by kernel_rfl)
def jwant : Fo := .node 7 ⟨#[]⟩ 0 ⟨#[]⟩ (.node 6 ⟨#[97]⟩ 0 ⟨#[]⟩ (.node 4 ⟨#[]⟩ 1 ⟨#[]⟩ .nil (.node 4 ⟨#[]⟩ (-20) ⟨#[]⟩ .nil (.node 5 ⟨#[]⟩ 0 ⟨#[120, 10]⟩ .nil .nil))) (.node 1 ⟨#[98]⟩ 0 ⟨#[]⟩ .nil .nil)) .nil
theorem jxw : Jr.Reads (bl ⟨#[123, 34, 97, 34, 58, 32, 91, 49, 44, 32, 45, 50, 48, 44, 32, 34, 120, 92, 110, 34, 93, 44, 32, 34, 98, 34, 58, 110, 117, 108, 108, 125]⟩) (.ok jwant) := reads_lit _ [123, 34, 97, 34, 58, 32, 91, 49, 44, 32, 45, 50, 48, 44, 32, 34, 120, 92, 110, 34, 93, 44, 32, 34, 98, 34, 58, 110, 117, 108, 108, 125] _ (by rfl) (by decide) (by kernel_rfl)
theorem jxn : Jr.Reads (bl ⟨#[45, 57, 50, 50, 51, 51, 55, 50, 48, 51, 54, 56, 53, 52, 55, 55, 53, 56, 48, 56]⟩) (.ok (Jr.nd1 4 ⟨#[]⟩ (-9223372036854775808) ⟨#[]⟩ .nil)) := reads_lit _ [45, 57, 50, 50, 51, 51, 55, 50, 48, 51, 54, 56, 53, 52, 55, 55, 53, 56, 48, 56] _ (by rfl) (by decide) (by kernel_rfl)
end Go.Proofs.YtgmdjofnkbaflaaGreatDoor

/- The law's examples, walked. -/
namespace Go.Proofs.YtgmdjofnkbaflaaGreatDoor
open Go.RowKit
set_option linter.unusedVariables false
set_option maxRecDepth 100000

theorem TabE.drewN {w : World} (h : TabE w) (m : Nat) : TabE (w.drewN m) := h.later (below_drewN (Below.refl _ _) m)
set_option maxHeartbeats 16000000 in
theorem jworks (w : World) (T : Tab w) (TE : TabE w) : Calls Tryz.prog 15 #[] w fun e w' => e = .returned (.bool true) ∧ Below w.heap.size w w' := by
  obtain ⟨w0, hw0⟩ : ∃ w0, w0 = w.alloc (.cells (Gn.cells ndc (Tp.flat jwant)).toArray 28) := ⟨_, rfl⟩
  have b0 : Below w.heap.size w w0 := by rw [hw0]; exact up_new _ _
  have HV : Hid (RdN w0 w0.heap.size (.slice (some ⟨w.heap.size, 0, none⟩) 6 6) (Tp.flat jwant)) := Lib.hid (by rw [hw0]; exact Gn.Own.rd ndL (Gn.Own.lit (T := 28) ndL w w.heap.size (Tp.flat jwant) _ 6 6 rfl rfl rfl (by decide) (Nat.le_refl _)))
  have hc : (Gn.cells ndc (Tp.flat jwant)).toArray = #[.int .i64 7, .string ⟨#[]⟩, .int .i64 0, .string ⟨#[]⟩, .int .i64 6, .int .i64 6, .string ⟨#[97]⟩, .int .i64 0, .string ⟨#[]⟩, .int .i64 4, .int .i64 4, .string ⟨#[]⟩, .int .i64 1, .string ⟨#[]⟩, .int .i64 1, .int .i64 4, .string ⟨#[]⟩, .int .i64 (-20), .string ⟨#[]⟩, .int .i64 1, .int .i64 5, .string ⟨#[]⟩, .int .i64 0, .string ⟨#[120, 10]⟩, .int .i64 1, .int .i64 1, .string ⟨#[98]⟩, .int .i64 0, .string ⟨#[]⟩, .int .i64 1] := by rfl
  rw [hc] at hw0
  have HW0 := Lib.hid hw0
  have HB := Lib.hid b0
  have HT := Lib.hid (T.later b0)
  have HTE := Lib.hid (TE.later b0)
  obtain ⟨g, hg⟩ : ∃ g, g = w.heap.size := ⟨_, rfl⟩
  rw [← hg] at HV
  have HG := Lib.hid hg
  clear T TE b0 hc hw0 hg
  go_enter Tryz.func15, Tryz.ntmps15
  go_wp2_with fail
  rw [← HW0.out, ← HG.out]
  have CF := Lib.hid (show Calls Tryz.prog 19 #[.string ⟨#[123, 34, 97, 34, 58, 32, 91, 49, 44, 32, 45, 50, 48, 44, 32, 34, 120, 92, 110, 34, 93, 44, 32, 34, 98, 34, 58, 110, 117, 108, 108, 125]⟩, .slice (some ⟨g, 0, none⟩) 6 6] w0 fun e w' => e = .returned (.bool true) ∧ Below w0.heap.size w0 w' from jreads _ jwant _ w0 HT.out HTE.out (.inl (by decide)) jxw HV.out (by decide) (by decide))
  go_wp2_with fail
  ((with_reducible refine (CF.out).mono ?_); rintro e w1 ⟨rfl, b⟩)
  replace HB := Lib.hid (up HB.out b)
  replace HT := Lib.hid (HT.out.later b)
  replace HTE := Lib.hid (HTE.out.later b)
  clear b CF
  have CF := Lib.hid (show Calls Tryz.prog 21 #[.string ⟨#[48, 49]⟩, .int .i64 1, .int .i64 70] w1 fun e w' => e = .returned (.bool true) ∧ Below w1.heap.size w1 w' from jfails _ 1 70 w1 HT.out HTE.out (.inl (by decide)) jx0)
  go_wp2_with fail
  ((with_reducible refine (CF.out).mono ?_); rintro e w2 ⟨rfl, b⟩)
  replace HB := Lib.hid (up HB.out b)
  replace HT := Lib.hid (HT.out.later b)
  replace HTE := Lib.hid (HTE.out.later b)
  clear b CF
  have CF := Lib.hid (show Calls Tryz.prog 21 #[.string ⟨#[49, 46, 53]⟩, .int .i64 0, .int .i64 73] w2 fun e w' => e = .returned (.bool true) ∧ Below w2.heap.size w2 w' from jfails _ 0 73 w2 HT.out HTE.out (.inl (by decide)) jx1)
  go_wp2_with fail
  ((with_reducible refine (CF.out).mono ?_); rintro e w3 ⟨rfl, b⟩)
  replace HB := Lib.hid (up HB.out b)
  replace HT := Lib.hid (HT.out.later b)
  replace HTE := Lib.hid (HTE.out.later b)
  clear b CF
  have CF := Lib.hid (show Calls Tryz.prog 21 #[.string ⟨#[49, 46]⟩, .int .i64 2, .int .i64 70] w3 fun e w' => e = .returned (.bool true) ∧ Below w3.heap.size w3 w' from jfails _ 2 70 w3 HT.out HTE.out (.inl (by decide)) jx2)
  go_wp2_with fail
  ((with_reducible refine (CF.out).mono ?_); rintro e w4 ⟨rfl, b⟩)
  replace HB := Lib.hid (up HB.out b)
  replace HT := Lib.hid (HT.out.later b)
  replace HTE := Lib.hid (HTE.out.later b)
  clear b CF
  have CF := Lib.hid (show Calls Tryz.prog 21 #[.string ⟨#[45]⟩, .int .i64 1, .int .i64 70] w4 fun e w' => e = .returned (.bool true) ∧ Below w4.heap.size w4 w' from jfails _ 1 70 w4 HT.out HTE.out (.inl (by decide)) jx3)
  go_wp2_with fail
  ((with_reducible refine (CF.out).mono ?_); rintro e w5 ⟨rfl, b⟩)
  replace HB := Lib.hid (up HB.out b)
  replace HT := Lib.hid (HT.out.later b)
  replace HTE := Lib.hid (HTE.out.later b)
  clear b CF
  have CF := Lib.hid (show Calls Tryz.prog 21 #[.string ⟨#[49, 101, 43, 51]⟩, .int .i64 0, .int .i64 73] w5 fun e w' => e = .returned (.bool true) ∧ Below w5.heap.size w5 w' from jfails _ 0 73 w5 HT.out HTE.out (.inl (by decide)) jx4)
  go_wp2_with fail
  ((with_reducible refine (CF.out).mono ?_); rintro e w6 ⟨rfl, b⟩)
  replace HB := Lib.hid (up HB.out b)
  replace HT := Lib.hid (HT.out.later b)
  replace HTE := Lib.hid (HTE.out.later b)
  clear b CF
  have CF := Lib.hid (show Calls Tryz.prog 21 #[.string ⟨#[57, 50, 50, 51, 51, 55, 50, 48, 51, 54, 56, 53, 52, 55, 55, 53, 56, 48, 56]⟩, .int .i64 0, .int .i64 73] w6 fun e w' => e = .returned (.bool true) ∧ Below w6.heap.size w6 w' from jfails _ 0 73 w6 HT.out HTE.out (.inl (by decide)) jx5)
  go_wp2_with fail
  ((with_reducible refine (CF.out).mono ?_); rintro e w7 ⟨rfl, b⟩)
  replace HB := Lib.hid (up HB.out b)
  replace HT := Lib.hid (HT.out.later b)
  replace HTE := Lib.hid (HTE.out.later b)
  clear b CF
  have CN := Lib.hid (mkNum (-9223372036854775808) w7)
  go_wp2_with fail
  ((with_reducible refine (CN.out).mono ?_); rintro e w8 ⟨v, rfl, ho, b⟩)
  have HN := Lib.hid (Gn.Own.rd ndL ho)
  obtain ⟨va, vc, rfl⟩ := rdv HN.out 1 rfl
  replace HB := Lib.hid (up HB.out b)
  replace HT := Lib.hid (HT.out.later b)
  replace HTE := Lib.hid (HTE.out.later b)
  clear b CN ho
  have CF := Lib.hid (show Calls Tryz.prog 19 #[.string ⟨#[45, 57, 50, 50, 51, 51, 55, 50, 48, 51, 54, 56, 53, 52, 55, 55, 53, 56, 48, 56]⟩, .slice va 1 vc] w8 fun e w' => e = .returned (.bool true) ∧ Below w8.heap.size w8 w' from jreads _ (Jr.nd1 4 ⟨#[]⟩ (-9223372036854775808) ⟨#[]⟩ .nil) _ w8 HT.out HTE.out (.inl (by decide)) jxn HN.out (by decide) (by decide))
  go_wp2_with fail
  ((with_reducible refine (CF.out).mono ?_); rintro e w9 ⟨rfl, b⟩)
  replace HB := Lib.hid (up HB.out b)
  replace HT := Lib.hid (HT.out.later b)
  replace HTE := Lib.hid (HTE.out.later b)
  clear b CF
  have CF := Lib.hid (show Calls Tryz.prog 21 #[.string ⟨#[91, 49, 44, 93]⟩, .int .i64 3, .int .i64 70] w9 fun e w' => e = .returned (.bool true) ∧ Below w9.heap.size w9 w' from jfails _ 3 70 w9 HT.out HTE.out (.inl (by decide)) jx6)
  go_wp2_with fail
  ((with_reducible refine (CF.out).mono ?_); rintro e w10 ⟨rfl, b⟩)
  replace HB := Lib.hid (up HB.out b)
  replace HT := Lib.hid (HT.out.later b)
  replace HTE := Lib.hid (HTE.out.later b)
  clear b CF
  have CF := Lib.hid (show Calls Tryz.prog 21 #[.string ⟨#[123, 34, 97, 34, 58, 49, 44, 34, 97, 34, 58, 50, 125]⟩, .int .i64 7, .int .i64 71] w10 fun e w' => e = .returned (.bool true) ∧ Below w10.heap.size w10 w' from jfails _ 7 71 w10 HT.out HTE.out (.inl (by decide)) jx7)
  go_wp2_with fail
  ((with_reducible refine (CF.out).mono ?_); rintro e w11 ⟨rfl, b⟩)
  replace HB := Lib.hid (up HB.out b)
  replace HT := Lib.hid (HT.out.later b)
  replace HTE := Lib.hid (HTE.out.later b)
  clear b CF
  have CF := Lib.hid (show Calls Tryz.prog 21 #[.string ⟨#[91, 34, 92, 120, 34, 93]⟩, .int .i64 1, .int .i64 41] w11 fun e w' => e = .returned (.bool true) ∧ Below w11.heap.size w11 w' from jfails _ 1 41 w11 HT.out HTE.out (.inl (by decide)) jx8)
  go_wp2_with fail
  ((with_reducible refine (CF.out).mono ?_); rintro e w12 ⟨rfl, b⟩)
  replace HB := Lib.hid (up HB.out b)
  replace HT := Lib.hid (HT.out.later b)
  replace HTE := Lib.hid (HTE.out.later b)
  clear b CF
  have CF := Lib.hid (show Calls Tryz.prog 21 #[.string ⟨#[116, 114, 117]⟩, .int .i64 3, .int .i64 70] w12 fun e w' => e = .returned (.bool true) ∧ Below w12.heap.size w12 w' from jfails _ 3 70 w12 HT.out HTE.out (.inl (by decide)) jx9)
  go_wp2_with fail
  ((with_reducible refine (CF.out).mono ?_); rintro e w13 ⟨rfl, b⟩)
  replace HB := Lib.hid (up HB.out b)
  replace HT := Lib.hid (HT.out.later b)
  replace HTE := Lib.hid (HTE.out.later b)
  clear b CF
  have CF := Lib.hid (show Calls Tryz.prog 21 #[.string ⟨#[]⟩, .int .i64 0, .int .i64 70] w13 fun e w' => e = .returned (.bool true) ∧ Below w13.heap.size w13 w' from jfails _ 0 70 w13 HT.out HTE.out (.inl (by decide)) jx10)
  go_wp2_with fail
  ((with_reducible refine (CF.out).mono ?_); rintro e w14 ⟨rfl, b⟩)
  replace HB := Lib.hid (up HB.out b)
  replace HT := Lib.hid (HT.out.later b)
  replace HTE := Lib.hid (HTE.out.later b)
  clear b CF
  have CF := Lib.hid (show Calls Tryz.prog 21 #[.string ⟨#[91, 49, 93, 32, 50]⟩, .int .i64 4, .int .i64 70] w14 fun e w' => e = .returned (.bool true) ∧ Below w14.heap.size w14 w' from jfails _ 4 70 w14 HT.out HTE.out (.inl (by decide)) jx11)
  go_wp2_with fail
  ((with_reducible refine (CF.out).mono ?_); rintro e w15 ⟨rfl, b⟩)
  replace HB := Lib.hid (up HB.out b)
  replace HT := Lib.hid (HT.out.later b)
  replace HTE := Lib.hid (HTE.out.later b)
  clear b CF
  have CF := Lib.hid (show Calls Tryz.prog 21 #[.string ⟨#[123, 34, 97, 34, 32, 49, 125]⟩, .int .i64 5, .int .i64 70] w15 fun e w' => e = .returned (.bool true) ∧ Below w15.heap.size w15 w' from jfails _ 5 70 w15 HT.out HTE.out (.inl (by decide)) jx12)
  go_wp2_with fail
  ((with_reducible refine (CF.out).mono ?_); rintro e w16 ⟨rfl, b⟩)
  replace HB := Lib.hid (up HB.out b)
  replace HT := Lib.hid (HT.out.later b)
  replace HTE := Lib.hid (HTE.out.later b)
  clear b CF
  have CF := Lib.hid (show Calls Tryz.prog 21 #[.string ⟨#[91, 91, 49, 46, 48, 120]⟩, .int .i64 2, .int .i64 73] w16 fun e w' => e = .returned (.bool true) ∧ Below w16.heap.size w16 w' from jfails _ 2 73 w16 HT.out HTE.out (.inl (by decide)) jx13)
  go_wp2_with fail
  ((with_reducible refine (CF.out).mono ?_); rintro e w17 ⟨rfl, b⟩)
  replace HB := Lib.hid (up HB.out b)
  replace HT := Lib.hid (HT.out.later b)
  replace HTE := Lib.hid (HTE.out.later b)
  clear b CF
  have CF := Lib.hid (show Calls Tryz.prog 21 #[.string ⟨#[91, 49, 32, 120]⟩, .int .i64 3, .int .i64 70] w17 fun e w' => e = .returned (.bool true) ∧ Below w17.heap.size w17 w' from jfails _ 3 70 w17 HT.out HTE.out (.inl (by decide)) jx14)
  go_wp2_with fail
  ((with_reducible refine (CF.out).mono ?_); rintro e w18 ⟨rfl, b⟩)
  replace HB := Lib.hid (up HB.out b)
  replace HT := Lib.hid (HT.out.later b)
  replace HTE := Lib.hid (HTE.out.later b)
  clear b CF
  have CF := Lib.hid (show Calls Tryz.prog 21 #[.string ⟨#[34, 97]⟩, .int .i64 0, .int .i64 3] w18 fun e w' => e = .returned (.bool true) ∧ Below w18.heap.size w18 w' from jfails _ 0 3 w18 HT.out HTE.out (.inl (by decide)) jx15)
  go_wp2_with fail
  ((with_reducible refine (CF.out).mono ?_); rintro e w19 ⟨rfl, b⟩)
  replace HB := Lib.hid (up HB.out b)
  replace HT := Lib.hid (HT.out.later b)
  replace HTE := Lib.hid (HTE.out.later b)
  clear b CF
  go_wp2_with fail
  go_ret
  exact ⟨rfl, HB.out⟩
end Go.Proofs.YtgmdjofnkbaflaaGreatDoor
