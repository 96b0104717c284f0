/- Lists and objects of parts, plainly; slices of slices, of texts. -/
import Derived.Test.YteklcfimafplbaaDoorRget
namespace Go.Proofs.YteklcfimafplbaaDoor
open Go.RowKit
set_option linter.unusedVariables false
set_option maxRecDepth 100000

/-- A slice, as a value. -/
structure Sl where
  a : Option Addr
  n : Nat
  c : Nat
def Sl.val (s : Sl) : Value := .slice s.a s.n s.c
def slv (s : Sl) : List Value := [.slice s.a s.n s.c]
theorem slL : Gn.Lay slv 1 := ⟨fun _ => rfl, fun x v hv => by simp [slv] at hv; subst hv; rfl, by omega⟩
def RdT (w : World) (B : Nat) (v : Value) (l : List ByteArray) : Prop := Gn.Rd txc 1 w B v l
/-- Parts in a row, each one a slice of nodes. -/
structure RdS (w : World) (B : Nat) (v : Value) (ss : List Sl) (ls : List (List Nd)) : Prop where
  rd : Gn.Rd slv 1 w B v ss
  len : ss.length = ls.length
  each : ∀ (i : Nat) (s : Sl) (l : List Nd), ss[i]? = some s → ls[i]? = some l → RdN w B s.val l ∧ (∀ x ∈ l, Nok x)
theorem RdS.below {w w' : World} {B B' : Nat} {v : Value} {ss : List Sl} {ls : List (List Nd)} (h : RdS w B v ss ls) (hb : Below B' w w') (hB : B ≤ B') : RdS w' B v ss ls :=
  ⟨Gn.Rd.below h.rd hb hB, h.len, fun i s l h1 h2 => ⟨Gn.Rd.below (h.each i s l h1 h2).1 hb hB, (h.each i s l h1 h2).2⟩⟩
theorem RdS.more {w : World} {B B' : Nat} {v : Value} {ss : List Sl} {ls : List (List Nd)} (h : RdS w B v ss ls) (hB : B ≤ B') : RdS w B' v ss ls :=
  ⟨Gn.Rd.more h.rd hB, h.len, fun i s l h1 h2 => ⟨Gn.Rd.more (h.each i s l h1 h2).1 hB, (h.each i s l h1 h2).2⟩⟩
theorem rdS_cell {W w : World} {B n c : Nat} {ad : Option Addr} {ss : List Sl} {ls : List (List Nd)} (h : RdS W B (.slice ad n c) ss ls) (hb : Below B W w) {i : Nat} {s : Sl} (hi : ss[i]? = some s) :
    ∃ b off, ad = some ⟨b, off, none⟩ ∧ w.cell? ⟨b, off + i, none⟩ = some (.slice s.a s.n s.c) := by
  obtain ⟨hl, e⟩ := List.getElem?_eq_some_iff.1 hi
  obtain ⟨b, off, rfl, _, hc⟩ := Gn.Rd.at h.rd hb hl
  rw [e] at hc
  refine ⟨b, off, rfl, ?_⟩
  have := hc 0 _ rfl
  simpa using this
theorem rdT_cell {W w : World} {B n c : Nat} {ad : Option Addr} {l : List ByteArray} (h : RdT W B (.slice ad n c) l) (hb : Below B W w) {i : Nat} {x : ByteArray} (hi : l[i]? = some x) :
    ∃ b off, ad = some ⟨b, off, none⟩ ∧ w.cell? ⟨b, off + i, none⟩ = some (.string x) := by
  obtain ⟨hl, e⟩ := List.getElem?_eq_some_iff.1 hi
  obtain ⟨b, off, rfl, _, hc⟩ := Gn.Rd.at h hb hl
  rw [e] at hc
  refine ⟨b, off, rfl, ?_⟩
  have := hc 0 _ rfl
  simpa using this

/-- The error of a key, behind others. -/
noncomputable def ke (k : Int) (seen : List ByteArray) (y : ByteArray) : Int := if k = 7 then okey seen y else lkey y
/-- What is wrong with the first k members: the first thing. -/
noncomputable def jerr (k : Int) (ys : List ByteArray) (ls : List (List Nd)) : Nat → Int
  | 0 => 0
  | i + 1 => if jerr k ys ls i ≠ 0 then jerr k ys ls i else if ke k (ys.take i) (ys.getD i ⟨#[]⟩) ≠ 0 then ke k (ys.take i) (ys.getD i ⟨#[]⟩) else chk (ls.getD i [])
theorem jerr_sticks (k : Int) (ys : List ByteArray) (ls : List (List Nd)) (i : Nat) (h : jerr k ys ls i ≠ 0) : ∀ j, i ≤ j → jerr k ys ls j = jerr k ys ls i
  | 0, hj => by have : i = 0 := by omega
                subst this; rfl
  | j + 1, hj => by
    rcases Nat.lt_or_ge i (j + 1) with hlt | hge
    · have := jerr_sticks k ys ls i h j (by omega)
      rw [jerr, if_pos (by rw [this]; exact h), this]
    · have : i = j + 1 := by omega
      subst this; rfl
theorem jerr_key (k : Int) (ys : List ByteArray) (ls : List (List Nd)) (i : Nat) (h0 : jerr k ys ls i = 0) (h : ke k (ys.take i) (ys.getD i ⟨#[]⟩) ≠ 0) : jerr k ys ls (i + 1) = ke k (ys.take i) (ys.getD i ⟨#[]⟩) := by
  rw [jerr, if_neg (by simp [h0]), if_pos h]
theorem jerr_chk (k : Int) (ys : List ByteArray) (ls : List (List Nd)) (i : Nat) (h0 : jerr k ys ls i = 0) (h : ke k (ys.take i) (ys.getD i ⟨#[]⟩) = 0) : jerr k ys ls (i + 1) = chk (ls.getD i []) := by
  rw [jerr, if_neg (by simp [h0]), if_neg (fun hh => hh h)]
/-- How many nodes there are, and how deep, of the first k members. -/
def jsz (ls : List (List Nd)) (k : Nat) : Nat := 1 + ((ls.take k).map List.length).sum
noncomputable def jdp (ls : List (List Nd)) : Nat → Nat
  | 0 => 1
  | i + 1 => max (jdp ls i) (dpt (ls.getD i []) + 1)
theorem jsz_zero (ls : List (List Nd)) : jsz ls 0 = 1 := by simp [jsz]
theorem jsz_succ (ls : List (List Nd)) (k : Nat) (l : List Nd) (h : ls[k]? = some l) : jsz ls (k + 1) = jsz ls k + l.length := by
  have hk : k < ls.length := (List.getElem?_eq_some_iff.1 h).1
  unfold jsz
  rw [List.take_succ_eq_append_getElem hk, List.map_append, List.sum_append, (List.getElem?_eq_some_iff.1 h).2]
  simp; omega
theorem jsz_mono (ls : List (List Nd)) (k : Nat) : jsz ls k ≤ jsz ls (k + 1) := by
  rcases Nat.lt_or_ge k ls.length with hk | hk
  · rw [jsz_succ ls k _ (List.getElem?_eq_getElem hk)]; omega
  · unfold jsz; rw [List.take_of_length_le (by omega), List.take_of_length_le (by omega)]; exact Nat.le_refl _
theorem jsz_le (ls : List (List Nd)) {j k : Nat} (h : j ≤ k) : jsz ls j ≤ jsz ls k := by
  induction k with
  | zero => have : j = 0 := by omega
            subst this; exact Nat.le_refl _
  | succ k ih =>
    rcases Nat.lt_or_ge j (k + 1) with hlt | hge
    · exact Nat.le_trans (ih (by omega)) (jsz_mono ls k)
    · have : j = k + 1 := by omega
      subst this; exact Nat.le_refl _
theorem jdp_fit (ls : List (List Nd)) : ∀ k, jdp ls k ≤ 65 ∧ 1 ≤ jdp ls k
  | 0 => by simp [jdp]
  | k + 1 => by
    have h1 := jdp_fit ls k
    have h2 := (chk_fit (ls.getD k [])).2
    simp only [jdp]
    omega
/-- A part, with its key. -/
def setK (y : ByteArray) : List Nd → List Nd
  | [] => []
  | x :: t => { x with key := y } :: t
theorem setK_len (y : ByteArray) (l : List Nd) : (setK y l).length = l.length := by cases l <;> rfl
def jpt (ys : List ByteArray) (ls : List (List Nd)) (k : Nat) : List Nd := ((ys.zip ls).take k).flatMap fun p => setK p.1 p.2
theorem jpt_succ (ys : List ByteArray) (ls : List (List Nd)) (k : Nat) (y : ByteArray) (l : List Nd) (hy : ys[k]? = some y) (hl : ls[k]? = some l) : jpt ys ls (k + 1) = jpt ys ls k ++ setK y l := by
  have h1 : (ys.zip ls)[k]? = some (y, l) := by
    obtain ⟨a1, a2⟩ := List.getElem?_eq_some_iff.1 hy
    obtain ⟨b1, b2⟩ := List.getElem?_eq_some_iff.1 hl
    rw [List.getElem?_eq_getElem (by simp; omega)]
    simp [a2, b2]
  have hk := (List.getElem?_eq_some_iff.1 h1).1
  unfold jpt
  rw [List.take_succ_eq_append_getElem hk, List.flatMap_append, (List.getElem?_eq_some_iff.1 h1).2]
  simp
theorem jpt_len (ys : List ByteArray) (ls : List (List Nd)) (hlen : ys.length = ls.length) : ∀ k, k ≤ ls.length → 1 + (jpt ys ls k).length = jsz ls k
  | 0, _ => by simp [jpt, jsz]
  | k + 1, h => by
    have hk : k < ls.length := by omega
    rw [jpt_succ ys ls k ys[k] ls[k] (List.getElem?_eq_getElem (by omega)) (List.getElem?_eq_getElem hk), jsz_succ ls k _ (List.getElem?_eq_getElem hk), List.length_append, setK_len]
    have := jpt_len ys ls hlen k (by omega)
    omega
/-- The list, or the object, of parts; or what is wrong. -/
structure JoinIs (k : Int) (ys : List ByteArray) (ls : List (List Nd)) (r : List Nd) (e : Int) : Prop where
  is : (jerr k ys ls ls.length ≠ 0 ∧ e = jerr k ys ls ls.length ∧ r = []) ∨
    (jerr k ys ls ls.length = 0 ∧ ((4000 < jsz ls ls.length ∧ e = 5 ∧ r = []) ∨ (jsz ls ls.length ≤ 4000 ∧ 64 < jdp ls ls.length ∧ e = 72 ∧ r = []) ∨
      (jsz ls ls.length ≤ 4000 ∧ jdp ls ls.length ≤ 64 ∧ e = 0 ∧ r = ⟨k, ⟨#[]⟩, 0, ⟨#[]⟩, (jsz ls ls.length : Nat)⟩ :: jpt ys ls ls.length)))
theorem join_ex (k : Int) (ys : List ByteArray) (ls : List (List Nd)) : ∃ r e, JoinIs k ys ls r e := by
  by_cases h : jerr k ys ls ls.length = 0
  · by_cases h1 : 4000 < jsz ls ls.length
    · exact ⟨_, _, ⟨.inr ⟨h, .inl ⟨h1, rfl, rfl⟩⟩⟩⟩
    · by_cases h2 : 64 < jdp ls ls.length
      · exact ⟨_, _, ⟨.inr ⟨h, .inr (.inl ⟨by omega, h2, rfl, rfl⟩)⟩⟩⟩
      · exact ⟨_, _, ⟨.inr ⟨h, .inr (.inr ⟨by omega, by omega, rfl, rfl⟩)⟩⟩⟩
  · exact ⟨_, _, ⟨.inl ⟨h, rfl, rfl⟩⟩⟩
/-- What List and Obj leave. -/
def JPost (w : World) (r : List Nd) (x : Int) (e : Ending) (w' : World) : Prop := ∃ v', e = .returned (.tuple #[v', .int .i64 x]) ∧ OwnN w' w.heap.size v' r ∧ Below w.heap.size w w'
end Go.Proofs.YteklcfimafplbaaDoor
