/- Sorting by insertion, plainly: what one more part does. -/
import Derived.Test.YtgmdjofnkbaflaaGreatDoorZs
import Derived.Test.YtgmdjofnkbaflaaGreatDoorRdeep
namespace Go.Proofs.YtgmdjofnkbaflaaGreatDoor.Tp
open Go.RowKit
set_option linter.unusedVariables false

noncomputable def resF (m : Bool) (G : Fo) : Fo := if m = true then cat (srtL (trs (sT G))) else sT G
theorem resF_nil (m : Bool) : resF m .nil = .nil := by cases m <;> rfl
theorem resF_sz (m : Bool) (G : Fo) : sz (resF m G) = sz G := by
  cases m
  · exact sT_sz G
  · show sz (cat (srtL (trs (sT G)))) = _
    rw [cat_srt_sz, sT_sz]
theorem resF_one (b : Bool) (k : Int) (y : ByteArray) (n : Int) (s : ByteArray) (c : Fo) (hb : ((k : Int) == 7) = b) : sT (.node k y n s c .nil) = .node k y n s (resF b c) .nil := by
  rw [sT]
  cases b
  · have : k ≠ 7 := by simpa using hb
    rw [if_neg this]; rfl
  · have : k = 7 := by simpa using hb
    rw [if_pos this]; rfl
theorem srtL_snoc (ts : List Fo) (T : Fo) : srtL (ts ++ [T]) = insL T (srtL ts) := by unfold srtL; rw [List.foldl_append]; rfl
theorem insL_split (T : Fo) : ∀ (a b : List Fo), (∀ S ∈ a, ly (kyo S) (kyo T) = true) → (∀ S b', b = S :: b' → ly (kyo S) (kyo T) = false) → insL T (a ++ b) = a ++ T :: b
  | [], [], _, _ => rfl
  | [], S :: b, _, h => by
    have := h S b rfl
    simp [insL, this]
  | S :: a, b, h1, h2 => by
    have := h1 S (List.mem_cons_self ..)
    simp only [List.cons_append, insL, this, if_true]
    rw [insL_split T a b (fun S hS => h1 S (List.mem_cons_of_mem _ hS)) h2]
/-- How one more part is put: before P, behind Q. -/
structure Ins (m : Bool) (D : Fo) (U D2 P Q : Fo) : Prop where
  was : resF m D = app P Q
  is : resF m D2 = app P (app U Q)
theorem ins_no (D : Fo) (k : Int) (y : ByteArray) (n : Int) (s : ByteArray) (c : Fo) : Ins false D (sT (.node k y n s c .nil)) (app D (.node k y n s c .nil)) (resF false D) .nil :=
  ⟨(app_nil _).symm, by rw [app_nil]; exact sT_app _ _⟩
theorem ins_yes (D : Fo) (k : Int) (y : ByteArray) (n : Int) (s : ByteArray) (c : Fo) (a b : List Fo) (h : srtL (trs (sT D)) = a ++ b) (h1 : ∀ S ∈ a, ly (kyo S) y = true) (h2 : ∀ S b', b = S :: b' → ly (kyo S) y = false) :
    Ins true D (sT (.node k y n s c .nil)) (app D (.node k y n s c .nil)) (cat a) (cat b) := by
  refine ⟨by show cat (srtL (trs (sT D))) = _; rw [h, cat_append], ?_⟩
  show cat (srtL (trs (sT (app D _)))) = _
  have e : trs (sT (.node k y n s c .nil)) = [sT (.node k y n s c .nil)] := rfl
  have ek : kyo (sT (.node k y n s c .nil)) = y := rfl
  have ea : app (sT (.node k y n s c .nil)) (cat b) = cat (sT (.node k y n s c .nil) :: b) := rfl
  rw [sT_app, trs_app, e, srtL_snoc, h, insL_split _ a b (by rw [ek]; exact h1) (by rw [ek]; exact h2), cat_append, ea]
/-- The next part of a row that is sorted. -/
theorem next_part (D : Fo) (a b : List Fo) (h : srtL (trs (sT D)) = a ++ b) (hlt : sz (cat a) < sz D) : ∃ k y n s c b', b = .node k y n s c .nil :: b' ∧ (flat (resF true D))[sz (cat a)]? = some ⟨k, y, n, s, 1 + (sz c : Nat)⟩ ∧ sz (cat (a ++ [.node k y n s c .nil])) = sz (cat a) + (1 + sz c) ∧ sz (cat a) + (1 + sz c) ≤ sz D := by
  have e : resF true D = cat (a ++ b) := by show cat (srtL (trs (sT D))) = _; rw [h]
  have hs : sz (cat (a ++ b)) = sz D := by rw [← e, resF_sz]
  rw [cat_append, sz_app] at hs
  cases b with
  | nil => simp [cat] at hs; omega
  | cons S b' =>
    obtain ⟨k, y, n, s, c, rfl⟩ := srt_single (sT D) S (by rw [h]; simp)
    refine ⟨k, y, n, s, c, b', rfl, ?_, ?_, ?_⟩
    · have hA := at_flat (resF true D)
      rw [e, cat_append] at hA ⊢
      obtain ⟨k', y', n', s', c', r', hR, hx, _⟩ := at_split (D := cat a) (R := cat (.node k y n s c .nil :: b')) hA (by simp only [cat, app, sz_node]; omega)
      simp only [cat, app] at hR
      injection hR with e1 e2 e3 e4 e5 e6
      subst e1 e2 e3 e4 e5
      rw [Nat.zero_add] at hx
      exact hx
    · rw [cat_append, sz_app]
      simp only [cat, app, sz_node, sz_nil]; omega
    · simp only [cat, app, sz_node] at hs
      omega
end Go.Proofs.YtgmdjofnkbaflaaGreatDoor.Tp
