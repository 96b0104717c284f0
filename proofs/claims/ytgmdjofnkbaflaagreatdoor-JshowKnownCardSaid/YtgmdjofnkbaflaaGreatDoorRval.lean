/- The reference: does a value stand at a place? -/
import Derived.Test.YtgmdjofnkbaflaaGreatDoorCheck
namespace Go.Proofs.YtgmdjofnkbaflaaGreatDoor
open Go.RowKit
set_option linter.unusedVariables false
set_option maxRecDepth 100000

theorem rdN_cells {W w : World} {B n c : Nat} {ad : Option Addr} {l : List Nd} (h : RdN W B (.slice ad n c) l) (hb : Below B W w) {i : Nat} {x : Nd} (hi : l[i]? = some x) :
    ∃ b off, ad = some ⟨b, off, none⟩ ∧ w.cell? ⟨b, off + i * 5, none⟩ = some (.int .i64 x.kind) ∧ w.cell? ⟨b, off + i * 5 + 1, none⟩ = some (.string x.key) ∧ w.cell? ⟨b, off + i * 5 + 2, none⟩ = some (.int .i64 x.n) ∧ w.cell? ⟨b, off + i * 5 + 3, none⟩ = some (.string x.s) ∧ w.cell? ⟨b, off + i * 5 + 4, none⟩ = some (.int .i64 x.size) := by
  obtain ⟨hl, e⟩ := List.getElem?_eq_some_iff.1 hi
  obtain ⟨b, off, rfl, _, hc⟩ := Gn.Rd.at h hb hl
  rw [e] at hc
  exact ⟨b, off, rfl, hc 0 _ rfl, hc 1 _ rfl, hc 2 _ rfl, hc 3 _ rfl, hc 4 _ rfl⟩
/-- Parts that fill a value. -/
def PP (l : List Nd) (a : Nat) (k : Int) (s : Nat) : Prop := ∃ C, Tp.At l (a + 1) C ∧ Tp.good C ∧ Tp.ko k (Tp.keys C) ∧ 1 + Tp.sz C = s
theorem pp_vp {l : List Nd} {a m s : Nat} {x : Nd} (hx : l[a]? = some x) (hk : x.kind = 6 ∨ x.kind = 7) (hf : Tp.hf x.kind x.n x.s) (hs : x.size = (s : Nat)) (hm : s ≤ m) : PP l a x.kind s ↔ Tp.Vp l a m := by
  constructor
  · rintro ⟨C, h1, h2, h3, h4⟩
    exact ⟨_, Tp.vp_kids hx hf (fun h => by omega) h1 (by rw [hs, ← h4]; simp) h3 h2 (by rw [hs]; omega)⟩
  · rintro ⟨F, ⟨k, y, n, s', c, rfl⟩, hA, ⟨g1, g2, g3, g4, g5⟩, hm⟩
    obtain ⟨h0, hc, _⟩ := Tp.at_node.1 hA
    rw [hx] at h0
    obtain rfl : x = _ := by injection h0
    simp only at hs
    exact ⟨c, hc, g4, g3, by omega⟩
/-- What is known between two parts. -/
structure RI (l : List Nd) (a s : Nat) (k : Int) (C : Fo) : Prop where
  at_ : Tp.At l (a + 1) C
  gd : Tp.good C
  ks : Tp.ko k (Tp.keys C)
  le : 1 + Tp.sz C ≤ s
theorem RI.start {l : List Nd} {a s : Nat} {k : Int} (h : 1 ≤ s) : RI l a s k .nil := ⟨Tp.At.nil _ _, trivial, Tp.ko_nil _, by simp; omega⟩
theorem RI.no {l : List Nd} {a s p : Nat} {k : Int} {C : Fo} {z : Nd} (h : RI l a s k C) (hp : a + 1 + Tp.sz C = p) (hlt : p < a + s) (hz : l[p]? = some z) (hno : ¬ Tp.k1 k (Tp.keys C) z.key ∨ ¬ Tp.Vp l p (a + s - p)) : ¬ PP l a k s := by
  rintro ⟨D, h1, h2, h3, h4⟩
  obtain ⟨R, rfl⟩ := Tp.at_begins h.at_ h1 (by omega)
  rw [Tp.sz_app] at h4
  cases R with
  | nil => simp at h4; omega
  | node k2 y2 n2 s2 c2 r2 =>
    rw [Tp.at_app] at h1
    have hR := h1.2
    rw [hp] at hR
    obtain ⟨hz2, hc2, hr2⟩ := Tp.at_node.1 hR
    rw [hz] at hz2
    obtain rfl : z = _ := by injection hz2
    rw [Tp.keys_app, Tp.keys] at h3
    have h3' : Tp.ko k ((Tp.keys C ++ [y2]) ++ Tp.keys r2) := by simpa using h3
    rw [Tp.good_app] at h2
    obtain ⟨_, q1, q2, q3, q4, q5⟩ := h2
    rcases hno with hno | hno
    · exact hno ((Tp.ko_snoc _ _ _).1 (Tp.ko_append h3').1).2
    · refine hno ⟨.node k2 y2 n2 s2 c2 .nil, ⟨_, _, _, _, _, rfl⟩, Tp.at_node.2 ⟨hz, hc2, Tp.At.nil _ _⟩, ⟨q1, q2, q3, q4, trivial⟩, ?_⟩
      rw [Tp.sz_node] at h4 ⊢
      simp only [Tp.sz_nil]
      omega
theorem RI.next {l : List Nd} {a s p : Nat} {k : Int} {C G : Fo} {z : Nd} (h : RI l a s k C) (hp : a + 1 + Tp.sz C = p) (hlt : p < a + s) (hz : l[p]? = some z) (hk : Tp.k1 k (Tp.keys C) z.key) (hG : Tp.Val l p (a + s - p) G) :
    z.size = (Tp.sz G : Nat) ∧ RI l a s k (Tp.app C G) := by
  obtain ⟨⟨gk, gy, gn, gs, gc, rfl⟩, hA, hg, hm⟩ := hG
  have h0 := (Tp.at_node.1 hA).1
  rw [hz] at h0
  obtain rfl : z = _ := by injection h0
  refine ⟨by rw [Tp.sz_node]; simp, Tp.at_app.2 ⟨h.at_, by rw [hp]; exact hA⟩, (Tp.good_app _ _).2 ⟨h.gd, hg⟩, ?_, by rw [Tp.sz_app]; omega⟩
  rw [Tp.keys_app]
  exact (Tp.ko_snoc k _ gy).2 ⟨h.ks, hk⟩
theorem RI.last {l : List Nd} {a s : Nat} {k : Int} {C : Fo} (h : RI l a s k C) (hge : ¬ a + 1 + Tp.sz C < a + s) : PP l a k s := ⟨C, h.at_, h.gd, h.ks, by have := h.le; omega⟩
/-- The claim, for all places from which so many nodes are left. -/
def RClaim (W : World) (v : Value) (l : List Nd) (n : Nat) : Prop :=
  ∀ (a m : Nat) (E : Int) (w : World) (b : Bool), l.length - a ≤ n → a + m ≤ l.length → 1 ≤ m → E = (a + m : Nat) → Below W.heap.size W w → (b = true ↔ Tp.Vp l a m) →
    Calls Tryz.prog 143 #[v, .int .i64 a, .int .i64 E] w fun e w' => e = .returned (.bool b) ∧ Below w.heap.size w w'

set_option maxHeartbeats 8000000 in
theorem rparts_list (W : World) (v : Value) (l : List Nd) (n a s : Nat) (IH : RClaim W v l n) (hR : RdN W W.heap.size v l) (hok : ∀ x ∈ l, Nok x) (hl : l.length ≤ 4000) (w : World) (hW : Below W.heap.size W w) (x : Nd) (hx : l[a]? = some x) (hn : l.length - (a + 1) ≤ n) (has : a + s ≤ l.length) (hs : x.size = s) (hs1 : 1 ≤ s) (hk : x.kind = 6) (b : Bool) (hb : b = true ↔ PP l a 6 s) :
    Calls Tryz.prog 178 #[v, .int .i64 a] w fun e w' => e = .returned (.bool b) ∧ Below w.heap.size w w' := by
  have hlt : a < l.length := (List.getElem?_eq_some_iff.1 hx).1
  have hlt' : (a : Int) < l.length := by omega
  have HR := Lib.hid hR
  have HX := Lib.hid hx
  have HO := Lib.hid hok
  have HB := Lib.hid hb
  have HW := Lib.hid hW
  obtain ⟨ad, c, rfl, hc1, hc2, _⟩ := Gn.Rd.form hR
  obtain ⟨bl0, off, rfl, c0, _, _, _, c4⟩ := rdN_cells hR hW hx
  rw [hs] at c4
  clear hR hok hb hx hW
  go_enter Tryz.func178, Tryz.ntmps178
  go_wp2_with fail
  clear c0 c4
  go_loopw [6] (fun i wr => ∃ (p : Nat) (C : Fo), a + 1 + Tp.sz C = p ∧ i = .int .i64 (p : Nat) ∧ Hid (RI l a s 6 C) ∧ Hid (Below w.heap.size w wr)) (fun i _ => (a + s) - (intOf i).toNat)
  case atStart => exact ⟨a + 1, .nil, by simp, by go_num, Lib.hid (RI.start hs1), Lib.hid (Below.refl _ _)⟩
  case round =>
    obtain ⟨p, C, hp, rfl, HI, HU⟩ := hrel
    by_cases hpl : p < a + s
    · have hpl' : (p : Int) < a + s := by omega
      have hll : p < l.length := by omega
      have hll' : (p : Int) < l.length := by omega
      obtain ⟨z, hz⟩ : ∃ z, l[p]? = some z := ⟨_, List.getElem?_eq_getElem hll⟩
      have HWr := Lib.hid (HW.out.trans (HU.out.mono HW.out.size))
      obtain ⟨b', off', e, c0, _, _, _, _⟩ := rdN_cells HR.out HWr.out HX.out
      obtain ⟨rfl, rfl⟩ : bl0 = b' ∧ off = off' := by injection e with e; injection e with e1 e2; exact ⟨e1, e2⟩
      obtain ⟨b', off', e2, _, z1, _, _, _⟩ := rdN_cells HR.out HWr.out hz
      obtain ⟨rfl, rfl⟩ : bl0 = b' ∧ off = off' := by injection e2 with e; injection e with e1 e2; exact ⟨e1, e2⟩
      rw [hk] at c0
      clear e e2
      have hpa : a + 1 ≤ p := by omega
      have HP := Lib.hid hp
      have HZ := Lib.hid hz
      clear hp
      by_cases hy : z.key.size = 0
      · have hq : z.key.toList.isEmpty = true := by rw [bl_empty, bl_nil.2 hy]; rfl
        have HK := Lib.hid (show Tp.k1 6 (Tp.keys C) z.key by unfold Tp.k1; rw [if_neg (by decide)]; exact hy)
        by_cases hv : Tp.Vp l p (a + s - p)
        · have CI := Lib.hid (IH p (a + s - p) (a + s) wr true (by omega) (by omega) (by omega) (by omega) HWr.out ⟨fun _ => hv, fun _ => rfl⟩)
          obtain ⟨G, hG⟩ := hv
          have HN := Lib.hid (HI.out.next HP.out hpl HZ.out HK.out hG)
          have hG1 : 1 ≤ Tp.sz G := by obtain ⟨⟨_, _, _, _, _, rfl⟩, _⟩ := hG; rw [Tp.sz_node]; omega
          have hG2 : (p : Int) + Tp.sz G ≤ 4000 := by have := hG.2.2.2; omega
          clear hG hz hy
          go_wp2_with fail
          ((with_reducible refine (CI.out).mono ?_); rintro e w3 ⟨rfl, b3⟩)
          have HU3 := Lib.hid (up HU.out b3)
          have HW3 := Lib.hid (HW.out.trans (HU3.out.mono HW.out.size))
          obtain ⟨b', off', e, y0, _, _, _, _⟩ := rdN_cells HR.out HW3.out HX.out
          obtain ⟨rfl, rfl⟩ : bl0 = b' ∧ off = off' := by injection e with e; injection e with e1 e2; exact ⟨e1, e2⟩
          obtain ⟨b', off', e2, _, _, _, _, y4⟩ := rdN_cells HR.out HW3.out HZ.out
          obtain ⟨rfl, rfl⟩ : bl0 = b' ∧ off = off' := by injection e2 with e; injection e with e1 e2; exact ⟨e1, e2⟩
          rw [hk] at y0
          rw [HN.out.1] at y4
          clear e e2 b3 c0 z1 CI
          go_wp2_with fail
          go_roundw
          case rel => exact ⟨p + Tp.sz G, Tp.app C G, by have := HP.out; rw [Tp.sz_app]; omega, by go_num, Lib.hid HN.out.2, HU3⟩
          case measure => simp [intOf]; omega
        · have CI := Lib.hid (IH p (a + s - p) (a + s) wr false (by omega) (by omega) (by omega) (by omega) HWr.out ⟨fun h => Bool.noConfusion h, fun h => absurd h hv⟩)
          have hbf : b = false := by
            have := HI.out.no HP.out hpl HZ.out (.inr hv)
            cases b with
            | false => rfl
            | true => exact absurd (HB.out.1 rfl) this
          subst hbf
          clear hz hy hv
          go_wp2_with fail
          ((with_reducible refine (CI.out).mono ?_); rintro e w3 ⟨rfl, b3⟩)
          have HU3 := Lib.hid (up HU.out b3)
          clear b3 c0 z1 CI
          go_wp2_with fail
          go_ret
          exact ⟨rfl, HU3.out⟩
      · have hq : z.key.toList.isEmpty = false := by rw [bl_empty]; exact decide_eq_false fun e => hy (bl_nil.1 e)
        have hbf : b = false := by
          have := HI.out.no HP.out hpl HZ.out (.inl (by unfold Tp.k1; rw [if_neg (by decide)]; exact hy))
          cases b with
          | false => rfl
          | true => exact absurd (HB.out.1 rfl) this
        subst hbf
        clear hz hy
        go_wp2_with fail
        go_ret
        exact ⟨rfl, HU.out⟩
    · have hpl' : ¬ (p : Int) < a + s := by omega
      have hbt : b = true := HB.out.2 (HI.out.last (by omega))
      subst hbt
      clear hp
      go_wp2_with fail
      go_ret
      exact ⟨rfl, HU.out⟩
end Go.Proofs.YtgmdjofnkbaflaaGreatDoor
