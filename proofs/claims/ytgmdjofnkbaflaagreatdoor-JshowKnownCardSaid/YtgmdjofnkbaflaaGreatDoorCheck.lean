/- May it be, and how deep is it: look, Check, Deep. -/
import Derived.Test.YtgmdjofnkbaflaaGreatDoorMeasure
namespace Go.Proofs.YtgmdjofnkbaflaaGreatDoor
open Go.RowKit
set_option linter.unusedVariables false
set_option maxRecDepth 100000

/-- What is wrong with nodes, and how deep they are. -/
def ChkIs (l : List Nd) (e : Int) (d : Nat) : Prop :=
  (4000 < l.length ∧ e = 5 ∧ d = 0) ∨ (l.length ≤ 4000 ∧ (∀ F, ¬ Rt l F) ∧ e = 60 ∧ d = 0) ∨ (l.length ≤ 4000 ∧ (∃ F, Rt l F ∧ 64 < Tp.dep F) ∧ e = 72 ∧ d = 0) ∨ (l.length ≤ 4000 ∧ e = 0 ∧ ∃ F, Rt l F ∧ Tp.dep F ≤ 64 ∧ d = Tp.dep F)
theorem chk_ex (l : List Nd) : ∃ e d, ChkIs l e d := by
  by_cases h : 4000 < l.length
  · exact ⟨_, _, .inl ⟨h, rfl, rfl⟩⟩
  · by_cases hF : ∃ F, Rt l F
    · obtain ⟨F, hF⟩ := hF
      by_cases hd : 64 < Tp.dep F
      · exact ⟨_, _, .inr (.inr (.inl ⟨by omega, ⟨F, hF, hd⟩, rfl, rfl⟩))⟩
      · exact ⟨_, _, .inr (.inr (.inr ⟨by omega, rfl, F, hF, by omega, rfl⟩))⟩
    · exact ⟨_, _, .inr (.inl ⟨by omega, fun F h => hF ⟨F, h⟩, rfl, rfl⟩)⟩
noncomputable def chk (l : List Nd) : Int := (chk_ex l).choose
noncomputable def dpt (l : List Nd) : Nat := (chk_ex l).choose_spec.choose
theorem chk_is (l : List Nd) : ChkIs l (chk l) (dpt l) := (chk_ex l).choose_spec.choose_spec
theorem chk_one {l : List Nd} {e e' : Int} {d d' : Nat} (h : ChkIs l e d) (h' : ChkIs l e' d') : e = e' ∧ d = d' := by
  rcases h with ⟨h1, rfl, rfl⟩ | ⟨h1, h2, rfl, rfl⟩ | ⟨h1, ⟨F, h2, h3⟩, rfl, rfl⟩ | ⟨h1, rfl, F, h2, h3, rfl⟩ <;>
  rcases h' with ⟨k1, rfl, rfl⟩ | ⟨k1, k2, rfl, rfl⟩ | ⟨k1, ⟨G, k2, k3⟩, rfl, rfl⟩ | ⟨k1, rfl, G, k2, k3, rfl⟩
  all_goals first
    | exact ⟨rfl, rfl⟩
    | (exfalso; omega)
    | exact absurd k2 (h2 _)
    | exact absurd h2 (k2 _)
    | (have := rt_one h2 k2; subst this; first | exact ⟨rfl, rfl⟩ | (exfalso; omega))
theorem chk_eq {l : List Nd} {e : Int} {d : Nat} (h : ChkIs l e d) : chk l = e ∧ dpt l = d := chk_one (chk_is l) h
/-- What may be. -/
def May (l : List Nd) (F : Fo) : Prop := l.length ≤ 4000 ∧ Rt l F ∧ Tp.dep F ≤ 64
theorem may_of {l : List Nd} (h : chk l = 0) : ∃ F, May l F ∧ dpt l = Tp.dep F := by
  rcases chk_is l with ⟨_, e, _⟩ | ⟨_, _, e, _⟩ | ⟨_, _, e, _⟩ | ⟨h1, _, F, h2, h3, h4⟩
  · rw [e] at h; cases h
  · rw [e] at h; cases h
  · rw [e] at h; cases h
  · exact ⟨F, ⟨h1, h2, h3⟩, h4⟩
theorem may_chk {l : List Nd} {F : Fo} (h : May l F) : chk l = 0 ∧ dpt l = Tp.dep F := chk_eq (.inr (.inr (.inr ⟨h.1, rfl, F, h.2.1, h.2.2, rfl⟩)))
theorem chk_no {l : List Nd} (h : chk l ≠ 0) : (∀ F, ¬ May l F) ∧ dpt l = 0 := by
  refine ⟨fun F hF => h (may_chk hF).1, ?_⟩
  rcases chk_is l with ⟨_, _, e⟩ | ⟨_, _, _, e⟩ | ⟨_, _, _, e⟩ | ⟨_, e, _⟩
  · exact e
  · exact e
  · exact e
  · exact absurd e h
theorem chk_fit (l : List Nd) : (0 ≤ chk l ∧ chk l ≤ 72) ∧ dpt l ≤ 64 := by
  rcases chk_is l with ⟨_, e, d⟩ | ⟨_, _, e, d⟩ | ⟨_, _, e, d⟩ | ⟨_, e, F, _, h, d⟩ <;> omega

set_option maxHeartbeats 4000000 in
theorem look (v : Value) (l : List Nd) (w : World) (h : RdN w w.heap.size v l) (hok : ∀ x ∈ l, Nok x) (T : Tab w) (e : Int) (d : Nat) (he : chk l = e) (hd : dpt l = d) :
    Calls Tryz.prog 101 #[v] w fun r w' => r = .returned (.tuple #[.int .i64 (d : Nat), .int .i64 e]) ∧ Below w.heap.size w w' := by
  have hc := chk_is l
  rw [he, hd] at hc
  have hll := Gn.Rd.len' h
  by_cases hl : 4000 < l.length
  · obtain ⟨rfl, rfl⟩ : e = 5 ∧ d = 0 := chk_one hc (.inl ⟨hl, rfl, rfl⟩)
    obtain ⟨ad, c, rfl, _⟩ := Gn.Rd.form h
    have hl' : (4000 : Int) < l.length := by omega
    clear hc he hd h
    go_enter Tryz.func101, Tryz.ntmps101
    go_wp2_with fail
    go_ret2
    exact ⟨rfl, Below.refl _ _⟩
  · have CM := Lib.hid (measure v l w h hok (by omega) T)
    obtain ⟨ad, c, rfl, _⟩ := Gn.Rd.form h
    have hl' : ¬ (4000 : Int) < l.length := by omega
    have HC := Lib.hid hc
    clear hc he hd h
    go_enter Tryz.func101, Tryz.ntmps101
    go_wp2_with fail
    ((with_reducible refine (CM.out).mono ?_); rintro r w2 ⟨hb, ⟨rfl, hno⟩ | ⟨F, hF, rfl⟩⟩)
    · obtain ⟨rfl, rfl⟩ : e = 60 ∧ d = 0 := chk_one HC.out (.inr (.inl ⟨by omega, hno, rfl, rfl⟩))
      clear hno HC
      go_wp2_with fail
      go_ret2
      exact ⟨rfl, hb⟩
    · by_cases h64 : 64 < Tp.dep F
      · obtain ⟨rfl, rfl⟩ : e = 72 ∧ d = 0 := chk_one HC.out (.inr (.inr (.inl ⟨by omega, ⟨F, hF, h64⟩, rfl, rfl⟩)))
        have h64' : (64 : Int) < Tp.dep F := by omega
        clear hF HC
        go_wp2_with fail
        go_ret2
        exact ⟨rfl, hb⟩
      · obtain ⟨rfl, rfl⟩ : e = 0 ∧ d = Tp.dep F := chk_one HC.out (.inr (.inr (.inr ⟨by omega, rfl, F, hF, by omega, rfl⟩)))
        have h64' : ¬ (64 : Int) < Tp.dep F := by omega
        clear hF HC
        go_wp2_with fail
        go_ret2
        exact ⟨rfl, hb⟩
set_option maxHeartbeats 4000000 in
theorem check (v : Value) (l : List Nd) (w : World) (h : RdN w w.heap.size v l) (hok : ∀ x ∈ l, Nok x) (T : Tab w) (e : Int) (he : chk l = e) :
    Calls Tryz.prog 56 #[v] w fun r w' => r = .returned (.int .i64 e) ∧ Below w.heap.size w w' := by
  have C := Lib.hid (look v l w h hok T e _ he rfl)
  go_enter Tryz.func56, Tryz.ntmps56
  go_wp2_with fail
  ((with_reducible refine (C.out).mono ?_); rintro r w2 ⟨rfl, hb⟩)
  go_wp2_with fail
  go_ret
  exact ⟨rfl, hb⟩
end Go.Proofs.YtgmdjofnkbaflaaGreatDoor
