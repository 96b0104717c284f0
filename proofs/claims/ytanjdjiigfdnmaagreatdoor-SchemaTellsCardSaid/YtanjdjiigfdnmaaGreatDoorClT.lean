/- Cells, plainly: their texts; what is read of a text. -/
import Derived.Test.YtanjdjiigfdnmaaGreatDoorClR
import Derived.Test.YtanjdjiigfdnmaaGreatDoorClNum
import Derived.Test.YtanjdjiigfdnmaaGreatDoorTidy
namespace Go.Proofs.YtanjdjiigfdnmaaGreatDoor.Cl
open Go.Lib
set_option linter.unusedVariables false

def nullB : ByteArray := ⟨#[110, 117, 108, 108]⟩
def trueB : ByteArray := ⟨#[116, 114, 117, 101]⟩
def falseB : ByteArray := ⟨#[102, 97, 108, 115, 101]⟩
/-- Two digits to the base 16 of each byte. -/
def hexs (l : List Nat) : List Nat := l.flatMap fun b => [Utf.hex (b / 16), Utf.hex (b % 16)]
theorem hexs_cons (b : Nat) (l : List Nat) : hexs (b :: l) = Utf.hex (b / 16) :: Utf.hex (b % 16) :: hexs l := by simp [hexs]
theorem hexs_append (a b : List Nat) : hexs (a ++ b) = hexs a ++ hexs b := by simp [hexs]
theorem hexs_len (l : List Nat) : (hexs l).length = 2 * l.length := by
  induction l with
  | nil => rfl
  | cons b l ih => rw [hexs_cons]; simp [ih]; omega
theorem hex_lt (d : Nat) (h : d < 16) : Utf.hex d < 256 := by unfold Utf.hex; split <;> omega
theorem hexs_byte {l : List Nat} (h : ∀ x ∈ l, x < 256) : ∀ x ∈ hexs l, x < 256 := by
  induction l with
  | nil => simp [hexs]
  | cons b l ih =>
    have hb := h b (by simp)
    intro x hx
    rw [hexs_cons] at hx
    simp only [List.mem_cons] at hx
    rcases hx with rfl | rfl | hx
    · exact hex_lt _ (by omega)
    · exact hex_lt _ (by omega)
    · exact ih (fun x hx => h x (List.mem_cons_of_mem _ hx)) x hx
/-- A byte's place among the digits; 16: it is none of them. -/
def idx (c : Nat) : Nat := if 48 ≤ c ∧ c ≤ 57 then c - 48 else if 97 ≤ c ∧ c ≤ 102 then c - 87 else 16
theorem idx_hex (d : Nat) (h : d < 16) : idx (Utf.hex d) = d := by unfold idx Utf.hex; split <;> split <;> first | omega | (split <;> omega)
/-- Bytes of digits, if they are some; x: what stands in place of those of none. -/
def gb (f : Nat → Nat → Nat) : List Nat → List Nat
  | a :: b :: t => f a b :: gb f t
  | _ => []
theorem gb_hexs (f : Nat → Nat → Nat) (hf : ∀ a b, idx a < 16 → idx b < 16 → f a b = 16 * idx a + idx b) : ∀ l : List Nat, (∀ x ∈ l, x < 256) → gb f (hexs l) = l
  | [], _ => rfl
  | b :: l, h => by
    have hb := h b (by simp)
    rw [hexs_cons]
    simp only [gb]
    rw [gb_hexs f hf l (fun x hx => h x (List.mem_cons_of_mem _ hx)), hf _ _ (by rw [idx_hex _ (by omega)]; omega) (by rw [idx_hex _ (by omega)]; omega), idx_hex _ (by omega), idx_hex _ (by omega)]
    congr 1; omega
/-- A cell's text. -/
def txt (k : Int) (c : C) : ByteArray :=
  if c.u = true then nullB else if k = 1 then (if c.n = 1 then trueB else falseB) else if k = 2 ∨ k = 3 then itS c.n else if k = 4 then str (Utf.tidy (bl c.s)) else str (120 :: hexs (bl c.s))
theorem tidy_unq (s : ByteArray) (h : Utf.vld (bl s) = true) : Utf.unq (bl (str (Utf.tidy (bl s)))) = (bl s, (Utf.tidy (bl s)).length, 0) := by
  rw [bl_str _ (Utf.tidy_byte _ (bl_byte s))]
  obtain ⟨rs, h1, h2⟩ := Utf.vld_runes _ (bl s) (Nat.le_refl _) (bl_byte s) h
  have := Utf.unq_tidy rs [] h1 (by simp)
  rw [List.append_nil] at this
  rw [h2]; exact this
theorem tidy_inj {s t : ByteArray} (hs : Utf.vld (bl s) = true) (ht : Utf.vld (bl t) = true) (h : str (Utf.tidy (bl s)) = str (Utf.tidy (bl t))) : s = t := by
  have h1 := tidy_unq s hs
  rw [h, tidy_unq t ht] at h1
  simp only [Prod.mk.injEq] at h1
  exact bl_inj h1.1.symm
theorem hexs_inj {s t : ByteArray} (h : str (120 :: hexs (bl s)) = str (120 :: hexs (bl t))) : s = t := by
  have hb : ∀ s : ByteArray, ∀ x ∈ 120 :: hexs (bl s), x < 256 := fun s x hx => by
    simp only [List.mem_cons] at hx
    rcases hx with rfl | hx
    · omega
    · exact hexs_byte (bl_byte s) x hx
  have h1 := congrArg bl h
  rw [bl_str _ (hb s), bl_str _ (hb t)] at h1
  have h2 : hexs (bl s) = hexs (bl t) := by simpa using h1
  have h3 := gb_hexs (fun a b => 16 * idx a + idx b) (fun _ _ _ _ => rfl) (bl s) (bl_byte s)
  rw [h2, gb_hexs _ (fun _ _ _ _ => rfl) (bl t) (bl_byte t)] at h3
  exact bl_inj h3.symm
theorem itS_head (n : Int) : (bl (itS n)).getD 0 0 ≤ 57 ∧ bl (itS n) ≠ [] := by
  rw [itS_bl, List.append_nil]
  unfold Jr.sgn
  have hn := Jr.dcs_ne n.natAbs
  have hd := Jr.dcs_isd n.natAbs
  cases hc : Jr.dcs n.natAbs with
  | nil => exact absurd hc hn
  | cons c r =>
    rw [hc] at hd
    have := hd c (by simp)
    simp only [Jr.isd, decide_eq_true_eq] at this
    split <;> simp <;> omega
/-- No text of a cell with something is 'null'. -/
theorem txt_null {k : Int} {c : C} (h : isK k c = true) : txt k c ≠ nullB := by
  intro e
  have hu := isK_u h
  unfold txt at e
  rw [hu, if_neg (by simp)] at e
  have e := congrArg bl e
  by_cases h1 : k = 1
  · rw [if_pos h1] at e
    split at e <;> revert e <;> decide
  · rw [if_neg h1] at e
    by_cases h2 : k = 2 ∨ k = 3
    · rw [if_pos h2] at e
      have := (itS_head c.n).1
      rw [e] at this
      revert this; decide
    · rw [if_neg h2] at e
      by_cases h3 : k = 4
      · rw [if_pos h3, bl_str _ (Utf.tidy_byte _ (bl_byte _))] at e
        have := congrArg (fun l => l.getD 0 0) e
        revert this
        unfold Utf.tidy; show (34 = 110 → False); decide
      · rw [if_neg h3, bl_str _ (fun x hx => by
          simp only [List.mem_cons] at hx
          rcases hx with rfl | hx
          · omega
          · exact hexs_byte (bl_byte c.s) x hx)] at e
        have := congrArg (fun l => l.getD 0 0) e
        revert this
        show (120 = 110 → False); decide
theorem txt_inj {k : Int} {a b : C} (hk : may k = true) (ha : isK k a = true) (hb : isK k b = true) (ia : I64 a.n) (ib : I64 b.n) (h : txt k a = txt k b) : a = b := by
  have ua := isK_u ha
  have ub := isK_u hb
  have hu := ua.trans ub.symm
  unfold txt at h
  rw [ua, ub] at h
  simp only [Bool.false_eq_true, if_false] at h
  unfold isK at ha hb
  obtain ⟨k0, k5⟩ := may_le hk
  rcases (show k = 1 ∨ k = 2 ∨ k = 3 ∨ k = 4 ∨ k = 5 by omega) with rfl | rfl | rfl | rfl | rfl
  · simp [ua] at ha; simp [ub] at hb
    refine C.ext' hu ?_ (ha.1.trans hb.1.symm)
    simp only [if_true] at h
    rcases ha.2 with e1 | e1 <;> rcases hb.2 with e2 | e2 <;> rw [e1, e2] at h ⊢ <;> exact absurd (congrArg bl h) (by decide)
  · simp [ua] at ha; simp [ub] at hb
    simp at h
    exact C.ext' hu (itS_inj ia ib h) (ha.1.trans hb.1.symm)
  · simp [ua] at ha; simp [ub] at hb
    simp at h
    exact C.ext' hu (itS_inj ia ib h) (ha.trans hb.symm)
  · simp [ua] at ha; simp [ub] at hb
    simp at h
    exact C.ext' hu (ha.1.1.trans hb.1.1.symm) (by rw [tidy_inj ha.2 hb.2 h])
  · simp [ua] at ha; simp [ub] at hb
    simp at h
    exact C.ext' hu (ha.1.trans hb.1.symm) (by rw [hexs_inj h])
/-- What is read of a text: the cell of the type whose text it is. -/
def Rdd (u : Bool) (k : Int) (X : ByteArray) (c : C) (e : Nat) : Prop :=
  (e = 2 ∧ may k = false ∧ c = empty) ∨ (may k = true ∧ e = 0 ∧ of u k c = true ∧ I64 c.n ∧ txt k c = X) ∨
  (may k = true ∧ e = 4 ∧ c = empty ∧ ∀ d, of u k d = true → I64 d.n → txt k d ≠ X)
theorem txt_of_inj {u : Bool} {k : Int} {a b : C} (hk : may k = true) (ha : of u k a = true) (hb : of u k b = true) (ia : I64 a.n) (ib : I64 b.n) (h : txt k a = txt k b) : a = b := by
  rcases of_parts ha with ⟨a1, a2, a3, a4⟩ | ⟨a1, a2⟩ <;> rcases of_parts hb with ⟨b1, b2, b3, b4⟩ | ⟨b1, b2⟩
  · exact C.ext' (a1.trans b1.symm) (a3.trans b3.symm) (a4.trans b4.symm)
  · have : txt k a = nullB := by unfold txt; rw [if_pos a1]
    exact absurd (h.symm.trans this) (txt_null b2)
  · have : txt k b = nullB := by unfold txt; rw [if_pos b1]
    exact absurd (h.trans this) (txt_null a2)
  · exact txt_inj hk a2 b2 ia ib h
theorem Rdd.only {u : Bool} {k : Int} {X : ByteArray} {c d : C} {e f : Nat} (h : Rdd u k X c e) (g : Rdd u k X d f) : c = d ∧ e = f := by
  rcases h with ⟨h1, h2, h3⟩ | ⟨h1, h2, h3, h4, h5⟩ | ⟨h1, h2, h3, h4⟩ <;> rcases g with ⟨g1, g2, g3⟩ | ⟨g1, g2, g3, g4, g5⟩ | ⟨g1, g2, g3, g4⟩
  · exact ⟨h3.trans g3.symm, h1.trans g1.symm⟩
  · rw [h2] at g1; cases g1
  · rw [h2] at g1; cases g1
  · rw [g2] at h1; cases h1
  · exact ⟨txt_of_inj h1 h3 g3 h4 g4 (h5.trans g5.symm), h2.trans g2.symm⟩
  · exact absurd h5 (g4 c h3 h4)
  · rw [g2] at h1; cases h1
  · exact absurd g5 (h4 d g3 g4)
  · exact ⟨h3.trans g3.symm, h2.trans g2.symm⟩
/-- How a reading comes of a guess: g is a cell with something that is d if the text is d's. -/
theorem Rdd.guess {u : Bool} {k : Int} {X : ByteArray} (hk : may k = true) (g : C) (ig : I64 g.n) (hx : ¬ (u = true ∧ X = nullB)) (hg : ∀ d, isK k d = true → I64 d.n → X = txt k d → g = d) :
    if isK k g = true ∧ txt k g = X then Rdd u k X g 0 else Rdd u k X empty 4 := by
  split
  · next h => exact .inr (.inl ⟨hk, rfl, by unfold of; rw [h.1]; simp, ig, h.2⟩)
  · next h =>
    refine .inr (.inr ⟨hk, rfl, rfl, fun d hd id e => ?_⟩)
    rcases of_parts hd with ⟨d1, d2, d3, d4⟩ | ⟨d1, d2⟩
    · have : txt k d = nullB := by unfold txt; rw [if_pos d1]
      exact hx ⟨d2, e.symm.trans this⟩
    · obtain rfl := hg d d2 id e.symm
      exact h ⟨d2, e⟩
theorem Rdd.null {k : Int} (hk : may k = true) : Rdd true k nullB nothing 0 :=
  .inr (.inl ⟨hk, rfl, by simp [of, none?, nothing, bl], by simp [nothing, I64], by simp [txt, nothing]⟩)
theorem txt_size {u : Bool} {k : Int} {c : C} (hk : may k = true) (h : of u k c = true) (hi : I64 c.n) : (txt k c).size ≤ 6200 := by
  rcases of_parts h with ⟨a1, _⟩ | ⟨a1, a2⟩
  · unfold txt; rw [if_pos a1]; decide
  · unfold isK at a2
    unfold txt
    rw [a1, if_neg (by simp)]
    obtain ⟨k0, k5⟩ := may_le hk
    rcases (show k = 1 ∨ k = 2 ∨ k = 3 ∨ k = 4 ∨ k = 5 by omega) with rfl | rfl | rfl | rfl | rfl
    · simp only [if_true]; split <;> decide
    · simp
      exact Nat.le_trans (itS_size _ hi.1 hi.2) (by omega)
    · simp
      exact Nat.le_trans (itS_size _ hi.1 hi.2) (by omega)
    · simp [a1] at a2
      simp [str_size]
      have : ∀ l : List Nat, (Utf.escs l).length ≤ 6 * l.length := fun l => by
        induction l with
        | nil => simp [Utf.escs]
        | cons b l ih => rw [Utf.escs_cons, List.length_append, List.length_cons]; have := (Utf.escB_len b).2; omega
      have := this (bl c.s)
      rw [bl_length] at this
      unfold Utf.tidy
      simp; omega
    · simp [a1] at a2
      simp [str_size, hexs_len, bl_length]; omega
theorem bts_size {u : Bool} {k : Int} {c : C} (hk : may k = true) (h : of u k c = true) : (bts u k c).length ≤ 2051 := by
  rcases of_parts h with ⟨a1, _⟩ | ⟨a1, a2⟩
  · unfold bts; rw [if_pos a1]; decide
  · unfold isK at a2
    unfold bts body
    rw [a1, if_neg (by simp)]
    have h1 : (if u = true then [1] else [] : List Nat).length ≤ 1 := by split <;> simp
    obtain ⟨k0, k5⟩ := may_le hk
    have hl := (esc0_len (bl c.s)).2
    rw [bl_length] at hl
    rcases (show k = 1 ∨ k = 2 ∨ k = 3 ∨ k = 4 ∨ k = 5 by omega) with rfl | rfl | rfl | rfl | rfl
    · simp; omega
    · simp [be_len]; omega
    · simp [be_len]; omega
    · simp [a1] at a2
      simp; omega
    · simp [a1] at a2
      simp; omega
theorem bts_byte {u : Bool} {k : Int} {c : C} (hk : may k = true) (h : of u k c = true) : ∀ x ∈ bts u k c, x < 256 := by
  intro x hx
  rcases of_parts h with ⟨a1, _⟩ | ⟨a1, a2⟩
  · unfold bts at hx; rw [if_pos a1] at hx; simp at hx; omega
  · unfold bts at hx
    rw [a1, if_neg (by simp)] at hx
    rcases List.mem_append.1 hx with hy | hy
    · clear hx; split at hy <;> simp at hy; omega
    · clear hx
      unfold body at hy
      split at hy
      · next h1 =>
        subst h1
        unfold isK at a2; simp [a1] at a2
        have hy : x = c.n.toNat := by simpa using hy
        omega
      · split at hy
        · exact be_byte _ x hy
        · rcases List.mem_append.1 hy with hy | hy
          · exact esc0_byte (bl_byte _) x hy
          · simp at hy; omega
end Go.Proofs.YtanjdjiigfdnmaaGreatDoor.Cl
