/- The reference: how deep; Check; Deep. -/
import Derived.Test.YtgmdjofnkbaflaaGreatDoorRvalA
namespace Go.Proofs.YtgmdjofnkbaflaaGreatDoor
open Go.RowKit
set_option linter.unusedVariables false
set_option maxRecDepth 100000

theorem dep_sz : ∀ F : Fo, Tp.dep F ≤ Tp.sz F
  | .nil => by simp [Tp.dep]
  | .node k y n s c r => by
    have h1 := dep_sz c
    have h2 := dep_sz r
    simp only [Tp.dep]
    rw [Tp.sz_node]
    omega
/-- A forest that is gone over, tree by tree: what is behind, what comes. -/
theorem at_split {l : List Nd} {a : Nat} {D R : Fo} (h : Tp.At l a (Tp.app D R)) (hne : 0 < Tp.sz R) : ∃ k y n s c r, R = .node k y n s c r ∧ l[a + Tp.sz D]? = some ⟨k, y, n, s, 1 + (Tp.sz c : Nat)⟩ ∧ Tp.At l (a + Tp.sz D + 1) c := by
  rw [Tp.at_app] at h
  cases R with
  | nil => simp at hne
  | node k y n s c r =>
    have := Tp.at_node.1 h.2
    exact ⟨k, y, n, s, c, r, rfl, this.1, this.2.1⟩
theorem app_step (D : Fo) (k : Int) (y : ByteArray) (n : Int) (s : ByteArray) (c r : Fo) : Tp.app D (.node k y n s c r) = Tp.app (Tp.app D (.node k y n s c .nil)) r := by rw [Tp.app_assoc]; rfl

set_option maxHeartbeats 4000000 in
theorem rdeep (W : World) (v : Value) (l : List Nd) (hR : RdN W W.heap.size v l) (hl : l.length ≤ 4000) : ∀ (n : Nat) (F : Fo) (a : Nat) (A E : Int) (w : World), Tp.sz F ≤ n → A = (a : Nat) → E = (a + Tp.sz F : Nat) → a + Tp.sz F ≤ l.length → Tp.At l a F → Below W.heap.size W w →
    Calls Tryz.prog 144 #[v, .int .i64 A, .int .i64 E] w fun e w' => e = .returned (.int .i64 (Tp.dep F : Nat)) ∧ Below w.heap.size w w' := by
  intro n
  induction n with
  | zero =>
    intro F a A E w hn hA hE hal hAt hW
    have : F = .nil := Tp.sz_zero (by omega)
    subst this
    obtain ⟨ad, c, rfl, hc1, hc2, _⟩ := Gn.Rd.form hR
    simp only [Tp.sz_nil, Nat.add_zero] at hE
    have hAE : ¬ A < E := by omega
    clear hAt
    go_enter Tryz.func144, Tryz.ntmps144
    go_wp2_with fail
    go_loopw [7, 8] (fun mo i wr => mo = .int .i64 0 ∧ i = .int .i64 A ∧ w = wr) (fun mo i _ => 0)
    case atStart => exact ⟨rfl, by simp_all, rfl⟩
    case round =>
      obtain ⟨rfl, rfl, rfl⟩ := hrel
      go_wp2_with fail
      go_ret
      exact ⟨rfl, Below.refl _ _⟩
  | succ n ih =>
    intro F a A E w hn hA hE hal hAt hW
    have HR := Lib.hid hR
    have IH := Lib.hid ih
    have HAt := Lib.hid hAt
    have HW := Lib.hid hW
    have HN := Lib.hid hn
    have hdz := dep_sz F
    obtain ⟨ad, c, rfl, hc1, hc2, _⟩ := Gn.Rd.form hR
    have HA := Lib.hid hA
    have HE := Lib.hid hE
    clear hR ih hAt hW hA hE
    go_enter Tryz.func144, Tryz.ntmps144
    go_wp2_with fail
    go_loopw [7, 8] (fun mo i wr => ∃ (D R : Fo) (q d : Nat), mo = .int .i64 (d : Nat) ∧ i = .int .i64 (q : Nat) ∧ Hid (F = Tp.app D R ∧ a + Tp.sz D = q ∧ Tp.dep D = d) ∧ Hid (Below w.heap.size w wr)) (fun mo i _ => a + Tp.sz F - (intOf i).toNat)
    case atStart => exact ⟨.nil, F, a, 0, by rfl, by rw [HA.out], Lib.hid ⟨rfl, by simp, rfl⟩, Lib.hid (Below.refl _ _)⟩
    case round =>
      obtain ⟨D, R, q, d, rfl, rfl, HD, HU⟩ := hrel
      have HWr := Lib.hid (HW.out.trans (HU.out.mono HW.out.size))
      have hsz : Tp.sz F = Tp.sz D + Tp.sz R := by rw [HD.out.1, Tp.sz_app]
      have hqa : a + Tp.sz D = q := HD.out.2.1
      by_cases hq : q < a + Tp.sz F
      · obtain ⟨kk, ky, kn, ks, kc, kr, hRe, hx, hAc⟩ := at_split (D := D) (R := R) (by rw [← HD.out.1]; exact HAt.out) (by omega)
        have hszR : Tp.sz R = 1 + Tp.sz kc + Tp.sz kr := by rw [hRe, Tp.sz_node]
        rw [hqa] at hx hAc
        have hql : (q : Int) < l.length := by omega
        have hqE : (q : Int) < E := by have := HE.out; omega
        have CI := Lib.hid (IH.out kc (q + 1) (q + 1) (q + (1 + (Tp.sz kc : Nat))) wr (by have := HN.out; omega) (by omega) (by omega) (by omega) hAc HWr.out)
        obtain ⟨bl0, off, rfl, _, _, _, _, x4⟩ := rdN_cells HR.out HWr.out hx
        have HX := Lib.hid hx
        have hb1 : (q : Int) + (1 + (Tp.sz kc : Nat)) ≤ 4000 := by omega
        have hdk := dep_sz kc
        have hdk2 : (Tp.dep kc : Int) ≤ 4000 := by omega
        have HD2 : Hid (F = Tp.app (Tp.app D (.node kk ky kn ks kc .nil)) kr ∧ a + Tp.sz (Tp.app D (.node kk ky kn ks kc .nil)) = q + (1 + Tp.sz kc) ∧ Tp.dep (Tp.app D (.node kk ky kn ks kc .nil)) = max d (1 + Tp.dep kc)) :=
          Lib.hid ⟨by rw [HD.out.1, hRe, app_step], by rw [Tp.sz_app, Tp.sz_node]; simp; omega, by rw [Tp.dep_app, HD.out.2.2]; simp [Tp.dep]⟩
        clear hx hAc hRe hsz hszR hdz hdk
        go_wp2_with fail
        ((with_reducible refine (CI.out).mono ?_); rintro e w3 ⟨rfl, b3⟩)
        have HU3 := Lib.hid (up HU.out b3)
        have HW3 := Lib.hid (HW.out.trans (HU3.out.mono HW.out.size))
        obtain ⟨b', off', e, _, _, _, _, y4⟩ := rdN_cells HR.out HW3.out HX.out
        obtain ⟨rfl, rfl⟩ : bl0 = b' ∧ off = off' := by injection e with e; injection e with e1 e2; exact ⟨e1, e2⟩
        clear e b3 x4 CI
        go_wp2_with fail
        go_roundw
        case rel => exact ⟨_, kr, q + (1 + Tp.sz kc), max d (1 + Tp.dep kc), by go_num, by go_num, HD2, HU3⟩
        case measure => simp [intOf]; omega
      · have hqE : ¬ (q : Int) < E := by have := HE.out; omega
        have HF : Hid (d = Tp.dep F) := Lib.hid (by
          have : R = .nil := Tp.sz_zero (by omega)
          rw [HD.out.1, this, Tp.app_nil, HD.out.2.2])
        clear hsz hqa hdz
        go_wp2_with fail
        go_ret
        exact ⟨by rw [HF.out]; rfl, HU.out⟩
end Go.Proofs.YtgmdjofnkbaflaaGreatDoor
