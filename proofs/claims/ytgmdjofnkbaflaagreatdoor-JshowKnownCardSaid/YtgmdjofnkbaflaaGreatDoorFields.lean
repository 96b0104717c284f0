/- A node's fields; the keys of a value's parts, one behind the other (a closure over a map). -/
import Derived.Test.YtgmdjofnkbaflaaGreatDoorNode
import Derived.Test.YtgmdjofnkbaflaaGreatDoorNext
import Derived.Test.YtgmdjofnkbaflaaGreatDoorLit
import Derived.Maps.OwnSet
namespace Go.Proofs.YtgmdjofnkbaflaaGreatDoor
open Go.RowKit
set_option linter.unusedVariables false

/-- What a node is held against. -/
def want (k n z : Int) (s : ByteArray) (n' z' : Int) (s' : ByteArray) : Prop :=
  ((k = 1 ∨ k = 2 ∨ k = 3) ∧ n' = 0 ∧ s' = ⟨#[]⟩ ∧ z' = 1) ∨ (k = 4 ∧ n' = n ∧ s' = ⟨#[]⟩ ∧ z' = 1) ∨ (k = 5 ∧ n' = 0 ∧ s' = s ∧ z' = 1) ∨ ((k = 6 ∨ k = 7) ∧ n' = 0 ∧ s' = ⟨#[]⟩ ∧ z' = z)
set_option maxRecDepth 100000 in
set_option maxHeartbeats 4000000 in
theorem fields_at (k n z : Int) (y s : ByteArray) (n' z' : Int) (s' : ByteArray) (w : World) (T : Tab w) (hm : s.size ≤ maxLen) (h : want k n z s n' z' s') (r v b : Bool) (hr : eqn ⟨k, y, n, s, z⟩ ⟨k, y, n', s', z'⟩ = r) (hv : Utf.vld (bl s) = v) (hb : (r && v) = b) :
    Calls Tryz.prog 170 #[ndv ⟨k, y, n, s, z⟩] w fun e w' => e = .returned (.bool b) ∧ Below w.heap.size w w' := by
  have HE := fun w => run_eqn ⟨k, y, n, s, z⟩ ⟨k, y, n', s', z'⟩ w
  rw [hr] at HE
  have CV := Lib.hid (fun (w1 : World) (h : Below w.heap.size w w1) => valid s w1 (T.later h) hm v hv)
  have HB := Lib.hid hb
  clear hr hv hb T hm
  unfold ndv at HE ⊢
  simp only at HE ⊢
  rcases h with ⟨rfl | rfl | rfl, rfl, rfl, rfl⟩ | ⟨rfl, rfl, rfl, rfl⟩ | ⟨rfl, rfl, rfl, rfl⟩ | ⟨rfl | rfl, rfl, rfl, rfl⟩
  all_goals
    cases r with
    | false =>
      go_enter Tryz.func170, Tryz.ntmps170
      go_wp2_with fail
      go_ret
      refine ⟨by rw [← HB.out]; rfl, ?_⟩
      repeat' (first | exact Below.refl _ _ | refine Below.setCell ?_ (by simp) _ | refine Below.alloc ?_ (by simp) _)
    | true =>
      go_enter Tryz.func170, Tryz.ntmps170
      go_wp2_with fail
      ((with_reducible refine (CV.out _ ?_).mono ?_); rotate_left; rintro e w2 ⟨rfl, b2⟩)
      · go_wp2_with fail
        go_ret
        refine ⟨by rw [← HB.out]; rfl, up ?_ b2⟩
        repeat' (first | exact Below.refl _ _ | refine Below.setCell ?_ (by simp) _ | refine Below.alloc ?_ (by simp) _)
      · repeat' (first | exact Below.refl _ _ | refine Below.setCell ?_ (by simp) _ | refine Below.alloc ?_ (by simp) _)
set_option maxRecDepth 100000 in
set_option maxHeartbeats 4000000 in
theorem fields_no (k n z : Int) (y s : ByteArray) (w : World) (h : k < 1 ∨ 7 < k) :
    Calls Tryz.prog 170 #[ndv ⟨k, y, n, s, z⟩] w fun e w' => e = .returned (.bool false) ∧ Below w.heap.size w w' := by
  have h1 : ¬ k = 1 := by omega
  have h2 : ¬ k = 2 := by omega
  have h3 : ¬ k = 3 := by omega
  have h4 : ¬ k = 4 := by omega
  have h5 : ¬ k = 5 := by omega
  have h6 : ¬ k = 6 := by omega
  have h7 : ¬ k = 7 := by omega
  clear h
  unfold ndv
  simp only
  go_enter Tryz.func170, Tryz.ntmps170
  go_wp2_with fail
  go_ret
  refine ⟨rfl, ?_⟩
  repeat' (first | exact Below.refl _ _ | refine Below.setCell ?_ (by simp) _ | refine Below.alloc ?_ (by simp) _)
/-- Has a node what its kind says? -/
theorem fields (x : Nd) (w : World) (T : Tab w) (hx : Nok x) (b : Bool) (hb : b = true ↔ Tp.hf x.kind x.n x.s ∧ (x.kind ≤ 5 → x.size = 1)) :
    Calls Tryz.prog 170 #[ndv x] w fun e w' => e = .returned (.bool b) ∧ Below w.heap.size w w' := by
  obtain ⟨k, y, n, s, z⟩ := x
  obtain ⟨_, _, _, hm, _⟩ := hx
  simp only at hb hm
  have he : s.size = 0 ↔ s = ⟨#[]⟩ := by
    constructor
    · intro h
      exact ByteArray.ext (Array.eq_empty_of_size_eq_zero h)
    · rintro rfl; rfl
  have hv0 : s = ⟨#[]⟩ → Utf.vld (bl s) = true := by rintro rfl; exact Utf.vld_nil
  rcases (show (k < 1 ∨ 7 < k) ∨ (k = 1 ∨ k = 2 ∨ k = 3) ∨ k = 4 ∨ k = 5 ∨ (k = 6 ∨ k = 7) by omega) with h | h | h | h | h
  · have : b = false := by
      cases b with
      | false => rfl
      | true => have := (hb.1 rfl).1; have := Tp.hf_kind this; omega
    subst this
    exact fields_no k n z y s w h
  · refine fields_at k n z y s 0 1 ⟨#[]⟩ w T hm (.inl ⟨h, rfl, rfl, rfl⟩) _ _ b rfl rfl ?_
    rw [Bool.eq_iff_iff, Bool.and_eq_true, eqn_iff, hb, Tp.Nd.mk.injEq]
    constructor
    · rintro ⟨⟨_, _, h1, h2, h3⟩, _⟩
      exact ⟨.inl ⟨h, h1, he.2 h2⟩, fun _ => h3⟩
    · rintro ⟨h1, h2⟩
      unfold Tp.hf at h1
      have e : n = 0 ∧ s.size = 0 := by omega
      exact ⟨⟨rfl, rfl, e.1, he.1 e.2, h2 (by omega)⟩, hv0 (he.1 e.2)⟩
  · refine fields_at k n z y s n 1 ⟨#[]⟩ w T hm (.inr (.inl ⟨h, rfl, rfl, rfl⟩)) _ _ b rfl rfl ?_
    rw [Bool.eq_iff_iff, Bool.and_eq_true, eqn_iff, hb, Tp.Nd.mk.injEq]
    constructor
    · rintro ⟨⟨_, _, h1, h2, h3⟩, _⟩
      exact ⟨.inr (.inl ⟨h, he.2 h2⟩), fun _ => h3⟩
    · rintro ⟨h1, h2⟩
      unfold Tp.hf at h1
      have e : s.size = 0 := by omega
      exact ⟨⟨rfl, rfl, rfl, he.1 e, h2 (by omega)⟩, hv0 (he.1 e)⟩
  · refine fields_at k n z y s 0 1 s w T hm (.inr (.inr (.inl ⟨h, rfl, rfl, rfl⟩))) _ _ b rfl rfl ?_
    rw [Bool.eq_iff_iff, Bool.and_eq_true, eqn_iff, hb, Tp.Nd.mk.injEq]
    constructor
    · rintro ⟨⟨_, _, h1, _, h3⟩, h4⟩
      exact ⟨.inr (.inr (.inl ⟨h, h1, h4⟩)), fun _ => h3⟩
    · rintro ⟨h1, h2⟩
      unfold Tp.hf at h1
      have e : n = 0 ∧ Utf.vld (bl s) = true := by
        rcases h1 with h1 | h1 | h1 | h1
        · omega
        · omega
        · exact h1.2
        · omega
      exact ⟨⟨rfl, rfl, e.1, rfl, h2 (by omega)⟩, e.2⟩
  · refine fields_at k n z y s 0 z ⟨#[]⟩ w T hm (.inr (.inr (.inr ⟨h, rfl, rfl, rfl⟩))) _ _ b rfl rfl ?_
    rw [Bool.eq_iff_iff, Bool.and_eq_true, eqn_iff, hb, Tp.Nd.mk.injEq]
    constructor
    · rintro ⟨⟨_, _, h1, h2, _⟩, _⟩
      exact ⟨.inr (.inr (.inr ⟨h, h1, he.2 h2⟩)), fun h5 => by omega⟩
    · rintro ⟨h1, _⟩
      unfold Tp.hf at h1
      have e : n = 0 ∧ s.size = 0 := by omega
      exact ⟨⟨rfl, rfl, e.1, he.1 e.2, rfl⟩, hv0 (he.1 e.2)⟩
end Go.Proofs.YtgmdjofnkbaflaaGreatDoor
