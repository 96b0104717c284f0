/- Cells, plainly: which may be, how they stand, their bits; no program. -/
import Derived.Test.YtanjdjiigfdnmaaGreatDoorOrd
namespace Go.Proofs.YtanjdjiigfdnmaaGreatDoor.Cl
open Go.Lib
set_option linter.unusedVariables false

/-- A cell. -/
structure C where
  u : Bool
  n : Int
  s : ByteArray
theorem C.ext' {a b : C} (h1 : a.u = b.u) (h2 : a.n = b.n) (h3 : bl a.s = bl b.s) : a = b := by
  obtain ⟨a1, a2, a3⟩ := a; obtain ⟨b1, b2, b3⟩ := b
  have : a3 = b3 := bl_inj h3
  simp_all
/-- Numbers lie in 64 bits. -/
def I64 (n : Int) : Prop := -9223372036854775808 ≤ n ∧ n ≤ 9223372036854775807
def may (k : Int) : Bool := decide (1 ≤ k) && decide (k ≤ 5)
/-- Is a cell with something of a kind? -/
def isK (k : Int) (c : C) : Bool :=
  !c.u && (if k = 1 then decide (bl c.s = []) && decide (c.n = 0 ∨ c.n = 1) else if k = 2 then decide (bl c.s = []) && decide (-2147483648 ≤ c.n ∧ c.n ≤ 2147483647)
    else if k = 3 then decide (bl c.s = []) else if k = 4 then decide (c.n = 0 ∧ c.s.size ≤ 1024) && Utf.vld (bl c.s) else decide (c.n = 0 ∧ c.s.size ≤ 1024))
def none? (c : C) : Bool := c.u && decide (c.n = 0 ∧ bl c.s = [])
/-- Is a cell of a type that may be? -/
def of (u : Bool) (k : Int) (c : C) : Bool := (u && none? c) || isK k c
def chk (u : Bool) (k : Int) (c : C) : Nat := if may k = false then 2 else if of u k c = false then 90 else 0
def nothing : C := ⟨true, 0, ⟨#[]⟩⟩
def empty : C := ⟨false, 0, ⟨#[]⟩⟩
theorem chk_ok {u : Bool} {k : Int} {c : C} (h : chk u k c = 0) : may k = true ∧ of u k c = true := by
  unfold chk at h
  cases h1 : may k <;> cases h2 : of u k c <;> simp [h1, h2] at h <;> exact ⟨rfl, rfl⟩
theorem may_le {k : Int} (h : may k = true) : 1 ≤ k ∧ k ≤ 5 := by
  unfold may at h; simp at h; exact h

/-! ### the order -/
def cmp (a b : C) : Int :=
  if a.u = b.u then (if a.n < b.n then -1 else if b.n < a.n then 1 else if Tp.less (bl a.s) (bl b.s) = true then -1 else if Tp.less (bl b.s) (bl a.s) = true then 1 else 0)
  else if a.u = true then -1 else 1
/-- One cell is less. -/
def lt (a b : C) : Prop := (a.u = true ∧ b.u = false) ∨ (a.u = b.u ∧ (a.n < b.n ∨ (a.n = b.n ∧ Tp.less (bl a.s) (bl b.s) = true)))
instance (a b : C) : Decidable (lt a b) := by unfold lt; exact inferInstance
theorem less_asymm {x y : List Nat} (h : Tp.less x y = true) : Tp.less y x = false := by
  cases h2 : Tp.less y x with
  | false => rfl
  | true => have := Tp.less_trans h h2; rw [Tp.less_irrefl] at this; cases this
theorem cmp_cases (a b : C) : (cmp a b = -1 ∧ lt a b) ∨ (cmp a b = 0 ∧ a = b) ∨ (cmp a b = 1 ∧ lt b a) := by
  unfold cmp lt
  by_cases hu : a.u = b.u
  · rw [if_pos hu]
    by_cases h1 : a.n < b.n
    · rw [if_pos h1]; exact .inl ⟨rfl, .inr ⟨hu, .inl h1⟩⟩
    · rw [if_neg h1]
      by_cases h2 : b.n < a.n
      · rw [if_pos h2]; exact .inr (.inr ⟨rfl, .inr ⟨hu.symm, .inl h2⟩⟩)
      · rw [if_neg h2]
        have hn : a.n = b.n := by omega
        by_cases h3 : Tp.less (bl a.s) (bl b.s) = true
        · rw [if_pos h3]; exact .inl ⟨rfl, .inr ⟨hu, .inr ⟨hn, h3⟩⟩⟩
        · rw [if_neg h3]
          by_cases h4 : Tp.less (bl b.s) (bl a.s) = true
          · rw [if_pos h4]; exact .inr (.inr ⟨rfl, .inr ⟨hu.symm, .inr ⟨hn.symm, h4⟩⟩⟩)
          · rw [if_neg h4]
            exact .inr (.inl ⟨rfl, C.ext' hu hn (Tp.less_tri (by simpa using h3) (by simpa using h4))⟩)
  · rw [if_neg hu]
    cases h1 : a.u <;> cases h2 : b.u <;> simp [h1, h2] at hu ⊢
theorem lt_trans {a b c : C} (h : lt a b) (k : lt b c) : lt a c := by
  unfold lt at *
  rcases h with ⟨h1, h2⟩ | ⟨h1, h2⟩ <;> rcases k with ⟨k1, k2⟩ | ⟨k1, k2⟩
  · rw [h2] at k1; cases k1
  · exact .inl ⟨h1, by rw [← k1, h2]⟩
  · exact .inl ⟨by rw [h1, k1], k2⟩
  · refine .inr ⟨h1.trans k1, ?_⟩
    rcases h2 with h2 | ⟨h2, h3⟩ <;> rcases k2 with k2 | ⟨k2, k3⟩
    · exact .inl (by omega)
    · exact .inl (by omega)
    · exact .inl (by omega)
    · exact .inr ⟨by omega, Tp.less_trans h3 k3⟩
theorem lt_irrefl (a : C) : ¬ lt a a := by
  unfold lt
  rintro (⟨h1, h2⟩ | ⟨_, h | ⟨_, h⟩⟩)
  · rw [h1] at h2; cases h2
  · omega
  · rw [Tp.less_irrefl] at h; cases h
theorem cmp_neg (a b : C) : cmp a b = -cmp b a := by
  rcases cmp_cases a b with ⟨h, h1⟩ | ⟨h, h1⟩ | ⟨h, h1⟩ <;> rcases cmp_cases b a with ⟨k, k1⟩ | ⟨k, k1⟩ | ⟨k, k1⟩ <;> rw [h, k] <;> first | rfl | skip
  all_goals first
    | exact absurd (lt_trans h1 k1) (lt_irrefl _)
    | (rw [h1] at k1; exact absurd k1 (lt_irrefl _))
    | (rw [k1] at h1; exact absurd h1 (lt_irrefl _))
theorem cmp_zero (a b : C) : cmp a b = 0 ↔ a = b := by
  rcases cmp_cases a b with ⟨h, h1⟩ | ⟨h, h1⟩ | ⟨h, h1⟩ <;> rw [h]
  · exact ⟨fun e => by omega, fun e => by rw [e] at h1; exact absurd h1 (lt_irrefl _)⟩
  · exact ⟨fun _ => h1, fun _ => rfl⟩
  · exact ⟨fun e => by omega, fun e => by rw [e] at h1; exact absurd h1 (lt_irrefl _)⟩
theorem cmp_trans (a b c : C) (h : ¬ 0 < cmp a b) (k : ¬ 0 < cmp b c) : cmp a c ≤ 0 := by
  rcases cmp_cases a b with ⟨h0, h1⟩ | ⟨h0, h1⟩ | ⟨h0, h1⟩
  · rcases cmp_cases b c with ⟨k0, k1⟩ | ⟨k0, k1⟩ | ⟨k0, k1⟩
    · rcases cmp_cases a c with ⟨l0, l1⟩ | ⟨l0, l1⟩ | ⟨l0, l1⟩
      · omega
      · omega
      · exact absurd (lt_trans (lt_trans h1 k1) l1) (lt_irrefl _)
    · rw [← k1, h0]; decide
    · omega
  · rw [h1]; omega
  · omega
theorem cmp_range (a b : C) : -1 ≤ cmp a b ∧ cmp a b ≤ 1 := by
  rcases cmp_cases a b with ⟨h, _⟩ | ⟨h, _⟩ | ⟨h, _⟩ <;> rw [h] <;> omega

/-! ### bits -/
def esc0 (l : List Nat) : List Nat := l.flatMap fun b => if b = 0 then [0, 255] else [b]
theorem esc0_cons (b : Nat) (l : List Nat) : esc0 (b :: l) = (if b = 0 then [0, 255] else [b]) ++ esc0 l := by simp [esc0]
theorem esc0_append (a b : List Nat) : esc0 (a ++ b) = esc0 a ++ esc0 b := by simp [esc0]
theorem esc0_len : ∀ l : List Nat, l.length ≤ (esc0 l).length ∧ (esc0 l).length ≤ 2 * l.length
  | [] => by simp [esc0]
  | b :: l => by
    have := esc0_len l
    rw [esc0_cons, List.length_append, List.length_cons]
    split <;> simp <;> omega
theorem esc0_byte {l : List Nat} (h : ∀ x ∈ l, x < 256) : ∀ x ∈ esc0 l, x < 256 := by
  intro x hx
  simp only [esc0, List.mem_flatMap] at hx
  obtain ⟨b, hb, hx⟩ := hx
  have := h b hb
  split at hx <;> simp at hx <;> omega
/-- Eight bytes of a number, the highest first. -/
def be (m : Nat) : List Nat := [m / 72057594037927936 % 256, m / 281474976710656 % 256, m / 1099511627776 % 256, m / 4294967296 % 256, m / 16777216 % 256, m / 65536 % 256, m / 256 % 256, m % 256]
def num8 (l : List Nat) : Nat := l.foldl (fun a b => 256 * a + b) 0
theorem num8_be (m : Nat) (h : m < 18446744073709551616) : num8 (be m) = m := by
  simp only [num8, be, List.foldl]; omega
theorem be_num8 (l : List Nat) (h : ∀ x ∈ l, x < 256) (hl : l.length = 8) : be (num8 l) = l ∧ num8 l < 18446744073709551616 := by
  match l, hl with
  | [a, b, c, d, e, f, g, i], _ =>
    have ha := h a (by simp)
    have hb := h b (by simp)
    have hc := h c (by simp)
    have hd := h d (by simp)
    have he := h e (by simp)
    have hf := h f (by simp)
    have hg := h g (by simp)
    have hi := h i (by simp)
    simp only [num8, be, List.foldl]
    refine ⟨?_, by omega⟩
    congr 1
    · omega
    congr 1
    · omega
    congr 1
    · omega
    congr 1
    · omega
    congr 1
    · omega
    congr 1
    · omega
    congr 1
    · omega
    congr 1
    omega
theorem be_byte (m : Nat) : ∀ x ∈ be m, x < 256 := by
  intro x hx
  simp only [be, List.mem_cons, List.not_mem_nil, or_false] at hx
  omega
theorem be_len (m : Nat) : (be m).length = 8 := rfl
/-- A number's place. -/
def turn (n : Int) : Nat := (n + 9223372036854775808).toNat
def body (k : Int) (c : C) : List Nat := if k = 1 then [c.n.toNat] else if k = 2 ∨ k = 3 then be (turn c.n) else esc0 (bl c.s) ++ [0, 0]
def bts (u : Bool) (k : Int) (c : C) : List Nat := if c.u = true then [0] else (if u = true then [1] else []) ++ body k c

theorem less_pre (p x y : List Nat) : Tp.less (p ++ x) (p ++ y) = Tp.less x y := by
  induction p with
  | nil => rfl
  | cons a p ih => simp [Tp.less, ih]
theorem less_esc : ∀ (s t x y : List Nat), s ≠ t → Tp.less (esc0 s ++ 0 :: 0 :: x) (esc0 t ++ 0 :: 0 :: y) = Tp.less s t
  | [], [], x, y, h => absurd rfl h
  | [], b :: t, x, y, _ => by
    rw [esc0_cons]
    split <;> simp [esc0, Tp.less] <;> omega
  | b :: s, [], x, y, _ => by
    rw [esc0_cons]
    split <;> simp [esc0, Tp.less] <;> omega
  | b :: s, c :: t, x, y, h => by
    by_cases e : b = c
    · subst e
      rw [esc0_cons, esc0_cons, List.append_assoc, List.append_assoc, less_pre, less_esc s t x y (by simpa using h)]
      simp [Tp.less]
    · rw [esc0_cons, esc0_cons]
      by_cases hb : b = 0
      · have hc : ¬ c = 0 := by omega
        have h1 : ¬ (0 = c) := by omega
        simp [hb, hc, h1, Tp.less]
      · by_cases hc : c = 0
        · have h1 : ¬ (b < 0) := by omega
          simp [hb, hc, Tp.less]
        · simp [hb, hc, Tp.less, e]
theorem less_be (a b : Nat) (x y : List Nat) (ha : a < 18446744073709551616) (hb : b < 18446744073709551616) (h : a ≠ b) : Tp.less (be a ++ x) (be b ++ y) = decide (a < b) := by
  simp only [be, List.cons_append, List.nil_append, Tp.less]
  rw [Bool.eq_iff_iff]
  simp only [Bool.or_eq_true, Bool.and_eq_true, decide_eq_true_eq]
  constructor
  · intro k
    rcases k with k | ⟨k1, k | ⟨k2, k | ⟨k3, k | ⟨k4, k | ⟨k5, k | ⟨k6, k | ⟨k7, k | ⟨k8, k⟩⟩⟩⟩⟩⟩⟩⟩
    all_goals first | omega | skip
  · intro k
    by_cases k1 : a / 72057594037927936 % 256 = b / 72057594037927936 % 256
    · refine .inr ⟨k1, ?_⟩
      by_cases k2 : a / 281474976710656 % 256 = b / 281474976710656 % 256
      · refine .inr ⟨k2, ?_⟩
        by_cases k3 : a / 1099511627776 % 256 = b / 1099511627776 % 256
        · refine .inr ⟨k3, ?_⟩
          by_cases k4 : a / 4294967296 % 256 = b / 4294967296 % 256
          · refine .inr ⟨k4, ?_⟩
            by_cases k5 : a / 16777216 % 256 = b / 16777216 % 256
            · refine .inr ⟨k5, ?_⟩
              by_cases k6 : a / 65536 % 256 = b / 65536 % 256
              · refine .inr ⟨k6, ?_⟩
                by_cases k7 : a / 256 % 256 = b / 256 % 256
                · refine .inr ⟨k7, ?_⟩
                  exact .inl (by omega)
                · exact .inl (by omega)
              · exact .inl (by omega)
            · exact .inl (by omega)
          · exact .inl (by omega)
        · exact .inl (by omega)
      · exact .inl (by omega)
    · exact .inl (by omega)
theorem of_parts {u : Bool} {k : Int} {c : C} (h : of u k c = true) : (c.u = true ∧ u = true ∧ c.n = 0 ∧ bl c.s = []) ∨ (c.u = false ∧ isK k c = true) := by
  unfold of none? at h
  cases hc : c.u
  · right; refine ⟨rfl, ?_⟩; simpa [hc] using h
  · left
    have : isK k c = false := by unfold isK; rw [hc]; rfl
    rw [this, hc] at h
    simp at h
    exact ⟨rfl, h.1, h.2.1, h.2.2⟩
theorem turn_lt {n : Int} (h : I64 n) : turn n < 18446744073709551616 := by unfold turn; unfold I64 at h; omega
/-- Of two cells of a type that are not the same the bits stand as the cells do, whatever is behind them. -/
theorem bts_less (u : Bool) (k : Int) (a b : C) (hk : may k = true) (ha : of u k a = true) (hb : of u k b = true) (ia : I64 a.n) (ib : I64 b.n) (hne : a ≠ b) (x y : List Nat) :
    Tp.less (bts u k a ++ x) (bts u k b ++ y) = decide (cmp a b < 0) := by
  have hlt : decide (cmp a b < 0) = decide (lt a b) := by
    rw [Bool.eq_iff_iff]
    simp only [decide_eq_true_eq]
    rcases cmp_cases a b with ⟨h, h1⟩ | ⟨h, h1⟩ | ⟨h, h1⟩ <;> rw [h]
    · exact ⟨fun _ => h1, fun _ => by omega⟩
    · exact absurd h1 hne
    · exact ⟨fun e => by omega, fun e => absurd (lt_trans e h1) (lt_irrefl _)⟩
  rw [hlt]
  rcases of_parts ha with ⟨a1, a2, a3, a4⟩ | ⟨a1, a2⟩ <;> rcases of_parts hb with ⟨b1, b2, b3, b4⟩ | ⟨b1, b2⟩
  · exact absurd (C.ext' (a1.trans b1.symm) (a3.trans b3.symm) (a4.trans b4.symm)) hne
  · have : lt a b := .inl ⟨a1, b1⟩
    simp [bts, a1, b1, a2, Tp.less, this]
  · have : ¬ lt a b := by
      intro h; have : lt b a := .inl ⟨b1, a1⟩; exact lt_irrefl _ (lt_trans h this)
    simp [bts, a1, b1, b2, Tp.less, this]
  · have e0 : ∀ p q : List Nat, bts u k a ++ x = (if u = true then [1] else []) ++ (body k a ++ x) ∧ bts u k b ++ y = (if u = true then [1] else []) ++ (body k b ++ y) := fun _ _ => by
      unfold bts
      rw [a1, b1]
      simp
    rw [(e0 [] []).1, (e0 [] []).2, less_pre]
    unfold isK at a2 b2
    unfold body
    have hu : a.u = b.u := a1.trans b1.symm
    have hnu : ¬ (a.u = true ∧ b.u = false) := by rw [a1]; simp
    obtain ⟨k0, k5⟩ := may_le hk
    rcases (show k = 1 ∨ k = 2 ∨ k = 3 ∨ k = 4 ∨ k = 5 by omega) with rfl | rfl | rfl | rfl | rfl
    · simp [a1] at a2; simp [b1] at b2
      have hs : a.s = b.s := bl_inj (a2.1.trans b2.1.symm)
      have hn : a.n ≠ b.n := fun e => hne (C.ext' hu e (by rw [hs]))
      have l2 : Tp.less (bl a.s) (bl b.s) = false := by rw [hs, Tp.less_irrefl]
      obtain ⟨_, a5⟩ := a2
      obtain ⟨_, b5⟩ := b2
      rw [Bool.eq_iff_iff]
      simp only [if_true, List.cons_append, List.nil_append, Tp.less, lt, hu, l2, decide_eq_true_eq, Bool.or_eq_true, Bool.and_eq_true, b1, false_and, and_false, or_false, true_and, false_or, Bool.false_eq_true]
      constructor
      · rintro (h | ⟨h, _⟩) <;> omega
      · rintro h; left; omega
    · simp [a1] at a2; simp [b1] at b2
      have hs : a.s = b.s := bl_inj (a2.1.trans b2.1.symm)
      have hn : a.n ≠ b.n := fun e => hne (C.ext' hu e (by rw [hs]))
      have l2 : Tp.less (bl a.s) (bl b.s) = false := by rw [hs, Tp.less_irrefl]
      have := less_be (turn a.n) (turn b.n) x y (turn_lt ia) (turn_lt ib) (by unfold turn; unfold I64 at ia ib; omega)
      simp [this, lt, hu, l2]
      unfold turn; unfold I64 at ia ib; omega
    · simp [a1] at a2; simp [b1] at b2
      have hs : a.s = b.s := bl_inj (a2.trans b2.symm)
      have hn : a.n ≠ b.n := fun e => hne (C.ext' hu e (by rw [hs]))
      have l2 : Tp.less (bl a.s) (bl b.s) = false := by rw [hs, Tp.less_irrefl]
      have := less_be (turn a.n) (turn b.n) x y (turn_lt ia) (turn_lt ib) (by unfold turn; unfold I64 at ia ib; omega)
      simp [this, lt, hu, l2]
      unfold turn; unfold I64 at ia ib; omega
    · simp [a1] at a2; simp [b1] at b2
      have hn : a.n = b.n := a2.1.1.trans b2.1.1.symm
      have hs : bl a.s ≠ bl b.s := fun e => hne (C.ext' hu hn e)
      have := less_esc (bl a.s) (bl b.s) x y hs
      simp [this, lt, hu, hn]
    · simp [a1] at a2; simp [b1] at b2
      have hn : a.n = b.n := a2.1.trans b2.1.symm
      have hs : bl a.s ≠ bl b.s := fun e => hne (C.ext' hu hn e)
      have := less_esc (bl a.s) (bl b.s) x y hs
      simp [this, lt, hu, hn]
/-- Bits are no other cell's bits' beginning. -/
theorem bts_apart (u : Bool) (k : Int) (a b : C) (hk : may k = true) (ha : of u k a = true) (hb : of u k b = true) (ia : I64 a.n) (ib : I64 b.n) (hne : a ≠ b) (r : List Nat) : bts u k b ≠ bts u k a ++ r := by
  intro e
  have h1 := bts_less u k a b hk ha hb ia ib hne r []
  have h2 := bts_less u k b a hk hb ha ib ia (fun e => hne e.symm) [] r
  rw [List.append_nil, e, Tp.less_irrefl] at h1 h2
  have h3 := cmp_zero a b
  have h4 := cmp_neg a b
  have h5 : ¬ cmp a b < 0 := by simpa using h1.symm
  have h6 : ¬ cmp b a < 0 := by simpa using h2.symm
  exact hne (h3.1 (by omega))
end Go.Proofs.YtanjdjiigfdnmaaGreatDoor.Cl
