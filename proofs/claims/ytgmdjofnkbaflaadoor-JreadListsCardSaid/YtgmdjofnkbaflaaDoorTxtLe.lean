/- A value's texts are no longer than what is shown of it. -/
import Derived.Test.YtgmdjofnkbaflaaDoorZs
namespace Go.Proofs.YtgmdjofnkbaflaaDoor.Jr
open Go.Lib
set_option linter.unusedVariables false

theorem escs_ge : ∀ l : List Nat, l.length ≤ (Utf.escs l).length
  | [] => Nat.zero_le _
  | c :: l => by
    have h := escs_ge l
    have h1 : 1 ≤ (Utf.escB c).length := by
      unfold Utf.escB
      repeat' split
      all_goals simp
    rw [Utf.escs_cons, List.length_append, List.length_cons]
    omega
theorem tidy_ge (l : List Nat) : l.length ≤ (Utf.tidy l).length := by
  have := escs_ge l
  unfold Utf.tidy
  simp
  omega
theorem one_ge {k n : Int} {s : ByteArray} {b : List Nat} (h : Tp.hf k n s) : s.size ≤ (one k n s b).length := by
  rcases h with ⟨_, _, h⟩ | ⟨_, h⟩ | ⟨rfl, _, _⟩ | ⟨_, _, h⟩
  · omega
  · omega
  · have := tidy_ge (bl s)
    rw [bl_length] at this
    unfold one
    simpa using this
  · omega
theorem one_body {k n : Int} {s : ByteArray} {b : List Nat} (h : k = 6 ∨ k = 7) : b.length ≤ (one k n s b).length := by
  unfold one
  rw [if_neg (by omega), if_neg (by omega), if_neg (by omega), if_neg (by omega), if_neg (by omega)]
  simp
  omega
theorem txt_le : ∀ (C : Fo) (k : Int) (first : Bool), Tp.good C → Tp.ko k (Tp.keys C) → ∀ x ∈ Tp.flat C, x.key.size ≤ (shp k first C).length ∧ x.s.size ≤ (shp k first C).length
  | .nil, _, _, _, _, x, hx => by simp at hx
  | .node k1 y n s c r, k, first, hg, hk, x, hx => by
    obtain ⟨g1, g2, g3, g4, g5⟩ := hg
    have hkr : Tp.ko k (Tp.keys r) := by
      unfold Tp.ko at hk ⊢
      split
      · rename_i e
        rw [if_pos e] at hk
        exact ⟨fun z hz => hk.1 z (List.mem_cons_of_mem _ hz), (List.nodup_cons.1 hk.2).2⟩
      · rename_i e
        rw [if_neg e] at hk
        exact fun z hz => hk z (List.mem_cons_of_mem _ hz)
    have hy : y.size ≤ (keyT k y).length := by
      unfold Tp.ko at hk
      unfold keyT
      split
      · have := tidy_ge (bl y)
        rw [bl_length] at this
        rw [List.length_append]
        omega
      · rename_i e
        rw [if_neg e] at hk
        have := hk y (List.mem_cons_self ..)
        omega
    have ho := one_ge (b := shp k1 true c) g1
    rw [Tp.flat_node] at hx
    rw [shp]
    simp only [List.length_append]
    rcases List.mem_cons.1 hx with rfl | hx
    · exact ⟨by dsimp only; omega, by dsimp only; omega⟩
    · rcases List.mem_append.1 hx with hx | hx
      · by_cases h5 : k1 ≤ 5
        · rw [g2 h5] at hx
          simp at hx
        · have hb := one_body (n := n) (s := s) (b := shp k1 true c) (show k1 = 6 ∨ k1 = 7 by have := Tp.hf_kind g1; omega)
          have := txt_le c k1 true g4 g3 x hx
          omega
      · have := txt_le r k false g5 hkr x hx
        omega
theorem txt_val {k n : Int} {s : ByteArray} {c : Fo} (hg : Tp.good (.node k ⟨#[]⟩ n s c .nil)) : ∀ x ∈ Tp.flat (.node k ⟨#[]⟩ n s c .nil), x.key.size ≤ (shv (.node k ⟨#[]⟩ n s c .nil)).length ∧ x.s.size ≤ (shv (.node k ⟨#[]⟩ n s c .nil)).length := by
  intro x hx
  have := txt_le (.node k ⟨#[]⟩ n s c .nil) 6 true hg (by unfold Tp.ko; rw [if_neg (by decide)]; intro y hy; rw [show Tp.keys (.node k ⟨#[]⟩ n s c .nil) = [⟨#[]⟩] from rfl] at hy; rw [List.mem_singleton.1 hy]; rfl) x hx
  have e : shp 6 true (.node k ⟨#[]⟩ n s c .nil) = shv (.node k ⟨#[]⟩ n s c .nil) := by simp [shp, shv, comma, keyT]
  rwa [e] at this
/-- A value has no more nodes than what is shown of it has bytes, and is half as deep. -/
theorem one_len {k n : Int} {s : ByteArray} {b : List Nat} (h : Tp.hf k n s) : 1 ≤ (one k n s b).length ∧ ((k = 6 ∨ k = 7) → (one k n s b).length = b.length + 2) := by
  constructor
  · unfold one wNull wFalse wTrue Utf.tidy
    have hd : 1 ≤ (dnum n).length := by
      unfold dnum
      have := List.length_pos_iff.2 (dcs_ne n.natAbs)
      rw [List.length_append]
      omega
    repeat' split
    all_goals first | exact hd | (simp; done) | (simp only [List.length_cons]; omega)
  · intro h
    unfold one
    rw [if_neg (by omega), if_neg (by omega), if_neg (by omega), if_neg (by omega), if_neg (by omega)]
    simp
theorem shp_ge : ∀ (C : Fo) (k : Int) (first : Bool), Tp.good C → Tp.sz C ≤ (shp k first C).length ∧ 2 * Tp.dep C ≤ (shp k first C).length + 1
  | .nil, _, _, _ => ⟨Nat.zero_le _, by simp [Tp.dep]⟩
  | .node k1 y n s c r, k, first, hg => by
    obtain ⟨g1, g2, g3, g4, g5⟩ := hg
    have ⟨o1, o2⟩ := one_len (b := shp k1 true c) g1
    have hr := shp_ge r k false g5
    rw [shp, Tp.sz_node]
    simp only [List.length_append, Tp.dep]
    by_cases h5 : k1 ≤ 5
    · rw [g2 h5] at *
      have z0 : Tp.sz Tp.Fo.nil = 0 := rfl
      simp only [Tp.dep] at *
      omega
    · have := shp_ge c k1 true g4
      have := o2 (by have := Tp.hf_kind g1; omega)
      omega
end Go.Proofs.YtgmdjofnkbaflaaDoor.Jr
