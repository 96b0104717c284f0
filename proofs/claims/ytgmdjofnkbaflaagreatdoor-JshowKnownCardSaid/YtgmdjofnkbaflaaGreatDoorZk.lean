/- Several texts in one: Get, Get2, Join, JoinF, JoinL, JoinP, Kids, ListP, Part, Rget, Slic. -/
import Derived.Test.YtgmdjofnkbaflaaGreatDoorMake
import Derived.Laws.OwnMore
import Derived.Laws.MakeOwn
import Derived.Test.YtgmdjofnkbaflaaGreatDoorFew
import Derived.Deep.DeepCutAuto
/- The places of parts. -/
namespace Go.Proofs.YtgmdjofnkbaflaaGreatDoor
open Go.RowKit
set_option linter.unusedVariables false
set_option maxRecDepth 100000

/-- The places of values one behind the other, the first one's being o. -/
def plcs : Nat → Fo → List Int
  | _, .nil => []
  | o, .node k y n s c r => (o : Int) :: plcs (o + 1 + Tp.sz c) r
theorem plcs_app : ∀ (o : Nat) (F G : Fo), plcs o (Tp.app F G) = plcs o F ++ plcs (o + Tp.sz F) G
  | o, .nil, G => by simp [Tp.app, plcs]
  | o, .node k y n s c r, G => by
    rw [Tp.app, plcs, plcs, plcs_app, Tp.sz_node, List.cons_append]
    rw [show o + 1 + Tp.sz c + Tp.sz r = o + (1 + Tp.sz c + Tp.sz r) by omega]
theorem plcs_len : ∀ (o : Nat) (F : Fo), (plcs o F).length ≤ Tp.sz F
  | _, .nil => by simp [plcs]
  | o, .node k y n s c r => by rw [plcs, List.length_cons, Tp.sz_node]; have := plcs_len (o + 1 + Tp.sz c) r; omega
theorem plcs_snoc (o : Nat) (D : Fo) (k : Int) (y : ByteArray) (n : Int) (s : ByteArray) (c : Fo) : plcs o (Tp.app D (.node k y n s c .nil)) = plcs o D ++ [((o + Tp.sz D : Nat) : Int)] := by
  rw [plcs_app]; rfl
/-- Which places are the root's parts'. -/
def KidsIs (l : List Nd) (ks : List Int) : Prop := (∃ k y n s c, May l (.node k y n s c .nil) ∧ ks = plcs 1 c) ∨ (chk l ≠ 0 ∧ ks = [])
theorem kids_ex (l : List Nd) : ∃ ks, KidsIs l ks := by
  by_cases h : chk l = 0
  · obtain ⟨F, hF, _⟩ := may_of h
    obtain ⟨⟨k, y, n, s, c, rfl, _⟩, _⟩ := hF.2.1
    exact ⟨_, .inl ⟨k, y, n, s, c, hF, rfl⟩⟩
  · exact ⟨_, .inr ⟨h, rfl⟩⟩
/-- What partsOf answers. -/
def OwPost (w : World) (ks : List Int) (e : Ending) (w' : World) : Prop := ∃ v', e = .returned v' ∧ OwnI w' w.heap.size v' ks ∧ Below w.heap.size w w'

set_option maxHeartbeats 4000000 in
theorem partsOf (W : World) (v : Value) (l : List Nd) (a : Nat) (A : Int) (w : World) (hR : RdN W W.heap.size v l) (hl : l.length ≤ 4000) (hW : Below W.heap.size W w) (hA : A = (a : Nat)) (k n : Int) (y s : ByteArray) (c : Fo) (hAt : Tp.At l a (.node k y n s c .nil)) :
    Calls Tryz.prog 59 #[v, .int .i64 A] w fun e w' => OwPost w (plcs (a + 1) c) e w' := by
  have HR := Lib.hid hR
  have HW := Lib.hid hW
  have HAt := Lib.hid (Tp.at_node.1 hAt)
  have hlen := Tp.At.len hAt
  rw [Tp.sz_node, Tp.sz_nil] at hlen
  have hlt : (a : Int) < l.length := by have := (List.getElem?_eq_some_iff.1 HAt.out.1).1; omega
  obtain ⟨ad, cp, rfl, _⟩ := Gn.Rd.form hR
  obtain ⟨b0, off, rfl, _, _, _, _, c4⟩ := rdN_cells hR hW HAt.out.1
  obtain rfl := hA
  have HO0 : Hid (OwnI w w.heap.size (.slice none 0 0) (plcs (a + 1) .nil)) := Lib.hid (Gn.Own.nil _ _)
  have hsl := plcs_len (a + 1) c
  have HSL := Lib.hid hsl
  clear hR hW hAt hsl
  go_enter Tryz.func59, Tryz.ntmps59
  go_wp2_with fail
  clear c4
  go_loopw [5, 7] (fun pv i wr => ∃ (D R : Fo) (q : Nat), i = .int .i64 (q : Nat) ∧ Hid (c = Tp.app D R ∧ a + 1 + Tp.sz D = q ∧ OwnI wr w.heap.size pv (plcs (a + 1) D)) ∧ Hid (Below w.heap.size w wr)) (fun pv i _ => a + 1 + Tp.sz c - (intOf i).toNat)
  case atStart => exact ⟨.nil, c, a + 1, by go_num, Lib.hid ⟨rfl, by simp, HO0.out⟩, Lib.hid (Below.refl _ _)⟩
  case round =>
    obtain ⟨D, R, q, rfl, HD, HU⟩ := hrel
    have HWr := Lib.hid (HW.out.trans (HU.out.mono HW.out.size))
    have hsz : Tp.sz c = Tp.sz D + Tp.sz R := by rw [HD.out.1, Tp.sz_app]
    have hqa : a + 1 + Tp.sz D = q := HD.out.2.1
    by_cases hq : q < a + 1 + Tp.sz c
    · obtain ⟨kk, ky, kn, ks, kc, kr, hRe, hx, hAc⟩ := at_split (D := D) (R := R) (by rw [← HD.out.1]; exact HAt.out.2.1) (by omega)
      have hszR : Tp.sz R = 1 + Tp.sz kc + Tp.sz kr := by rw [hRe, Tp.sz_node]
      rw [hqa] at hx
      have hql : (q : Int) < l.length := by omega
      have hqE : (q : Int) < a + (1 + (Tp.sz c : Nat)) := by omega
      have HX := Lib.hid hx
      have hb1 : (q : Int) + (1 + (Tp.sz kc : Nat)) ≤ 4000 := by omega
      have hpl : (plcs (a + 1) D).length ≤ 4000 := by have := plcs_len (a + 1) D; omega
      have HO1 := Lib.hid (Gn.Own.later HD.out.2.2 (up_new wr (.cells #[.int .i64 (q : Nat)] 3)))
      have HR1 := Lib.hid (rd_one 3 inL wr ((q : Nat) : Int) #[.int .i64 (q : Nat)] rfl)
      have HS1 := Lib.hid (up HU.out (up_new wr (.cells #[.int .i64 (q : Nat)] 3)))
      have HD2 : Hid (c = Tp.app (Tp.app D (.node kk ky kn ks kc .nil)) kr ∧ a + 1 + Tp.sz (Tp.app D (.node kk ky kn ks kc .nil)) = q + (1 + Tp.sz kc) ∧ plcs (a + 1) (Tp.app D (.node kk ky kn ks kc .nil)) = plcs (a + 1) D ++ [(q : Int)]) :=
        Lib.hid ⟨by rw [HD.out.1, hRe, app_step], by rw [Tp.sz_app, Tp.sz_node]; simp; omega, by rw [plcs_snoc, ← hqa]⟩
      clear hx hAc hRe hsz hszR
      go_wp2_with (at_builtin
                   refine Gn.wpList_app inL plY rfl (.tmp 27) (.tmp 29) rfl w.heap.size _ _ rfl HO1.out _ _ rfl HR1.out (by simp; omega) HS1.out.size ?_
                   intro v1 w1 ho1 hg1 hl1 hn1
                   have HB1 := Lib.hid (HS1.out.trans (Gn.below_of_own HO1.out hg1 HS1.out.size))
                   have HO2 := Lib.hid ho1
                   have HW1 := Lib.hid (HW.out.trans (HB1.out.mono HW.out.size))
                   obtain ⟨b', off', e, _, _, _, _, y4⟩ := rdN_cells HR.out HW1.out HX.out
                   obtain ⟨rfl, rfl⟩ : b0 = b' ∧ off = off' := by injection e with e; injection e with e1 e2; exact ⟨e1, e2⟩
                   clear e ho1 hg1 hl1 hn1 HO1 HR1 HS1)
      go_roundw
      case rel => exact ⟨_, kr, q + (1 + Tp.sz kc), by go_num, Lib.hid ⟨HD2.out.1, HD2.out.2.1, by rw [HD2.out.2.2]; exact HO2.out⟩, HB1⟩
      case measure => simp [intOf]; omega
    · have hqE : ¬ (q : Int) < a + (1 + (Tp.sz c : Nat)) := by omega
      have HF : Hid (c = D) := Lib.hid (by
        have : R = .nil := Tp.sz_zero (by omega)
        rw [HD.out.1, this, Tp.app_nil])
      clear hsz hqa
      go_wp2_with fail
      go_ret
      exact ⟨_, rfl, by rw [HF.out]; exact HD.out.2.2, HU.out⟩
end Go.Proofs.YtgmdjofnkbaflaaGreatDoor

/- A value that is cut out of a tape; what stands beside a key. -/
namespace Go.Proofs.YtgmdjofnkbaflaaGreatDoor
open Go.RowKit
set_option linter.unusedVariables false
set_option maxRecDepth 100000

/-- At each place of a forest a value stands. -/
theorem sub_at {l : List Nd} : ∀ (F : Fo) (a i : Nat), Tp.At l a F → Tp.good F → i < Tp.sz F → ∃ k y n s c, Tp.At l (a + i) (.node k y n s c .nil) ∧ Tp.good (.node k y n s c .nil) ∧ Tp.dep (.node k y n s c .nil) ≤ Tp.dep F
  | .nil, a, i, _, _, h => by simp at h
  | .node k y n s c r, a, i, hA, hg, h => by
    obtain ⟨h0, hc, hr⟩ := Tp.at_node.1 hA
    obtain ⟨g1, g2, g3, g4, g5⟩ := hg
    rw [Tp.sz_node] at h
    rcases (show i = 0 ∨ (1 ≤ i ∧ i < 1 + Tp.sz c) ∨ 1 + Tp.sz c ≤ i by omega) with e | e | e
    · subst e
      exact ⟨k, y, n, s, c, Tp.at_node.2 ⟨h0, hc, Tp.At.nil _ _⟩, ⟨g1, g2, g3, g4, trivial⟩, by simp [Tp.dep]; omega⟩
    · obtain ⟨k', y', n', s', c', q1, q2, q3⟩ := sub_at c (a + 1) (i - 1) hc g4 (by omega)
      rw [show a + 1 + (i - 1) = a + i by omega] at q1
      exact ⟨k', y', n', s', c', q1, q2, by simp only [Tp.dep] at q3 ⊢; omega⟩
    · obtain ⟨k', y', n', s', c', q1, q2, q3⟩ := sub_at r (a + 1 + Tp.sz c) (i - (1 + Tp.sz c)) hr g5 (by omega)
      rw [show a + 1 + Tp.sz c + (i - (1 + Tp.sz c)) = a + i by omega] at q1
      exact ⟨k', y', n', s', c', q1, q2, by simp only [Tp.dep] at q3 ⊢; omega⟩
theorem at_cut {l : List Nd} {a : Nat} {F : Fo} (h : Tp.At l a F) : (l.take (a + Tp.sz F)).drop a = Tp.flat F := by
  obtain ⟨t, ht⟩ := h
  rw [List.drop_take, ← ht, show a + Tp.sz F - a = (Tp.flat F).length by unfold Tp.sz; omega, List.take_left]
/-- The tape at a place. -/
def cutF (k n : Int) (s : ByteArray) (c : Fo) : List Nd := Tp.flat (.node k ⟨#[]⟩ n s c .nil)
/-- The first key is taken off. -/
theorem own_key {w : World} {base g cap m : Nat} {k n : Int} {y s : ByteArray} {c : Fo} (h : OwnN w base (.slice (some ⟨g, 0, none⟩) m cap) (Tp.flat (.node k y n s c .nil))) (hm : m = (Tp.flat (.node k y n s c .nil)).length) :
    OwnN (w.setCell ⟨g, 1, none⟩ (.string ⟨#[]⟩)) base (.slice (some ⟨g, 0, none⟩) m cap) (cutF k n s c) ∧ w.frozen? ⟨g, 1, none⟩ = false ∧ w.cell? ⟨g, 1, none⟩ = some (.string y) ∧ base ≤ g := by
  subst hm
  have h' : w.ownsRow base 28 5 (.slice (some ⟨g, 0, none⟩) (Tp.flat (.node k y n s c .nil)).length cap) (Tp.flat (.node k y n s c .nil)).length (Gn.cells ndc (Tp.flat (.node k y n s c .nil))) := h
  have e : Gn.cells ndc (cutF k n s c) = (Gn.cells ndc (Tp.flat (.node k y n s c .nil))).set 1 (.string ⟨#[]⟩) := rfl
  refine ⟨?_, h'.frozenAt 1, ?_, (h'.lt g rfl).1⟩
  · have := (h'.stored 1 (.string ⟨#[]⟩)).1
    unfold OwnN Gn.Own
    rw [e]
    exact this
  · have hl : (Tp.flat (.node k y n s c .nil)).length * 5 > 1 := by simp [Tp.flat]; omega
    rw [h'.cellAt 1 hl]
    rfl
theorem eql_nil (a : Addr) (n c : Nat) (w : World) : (binOp .eql 22 (.slice (some a) n c) (.slice none 0 0)).run Tryz.prog w = .ok (.bool false) w := by
  exact Lib.run_eql_slice_nil w 22 28 (some a) n c 0 0 Tryz.underlying22
end Go.Proofs.YtgmdjofnkbaflaaGreatDoor

/- Part and Get, of the program and the reference. -/
namespace Go.Proofs.YtgmdjofnkbaflaaGreatDoor
open Go.RowKit
set_option linter.unusedVariables false
set_option maxRecDepth 100000

/-- What stands at a place, by itself. -/
def PartIs (l : List Nd) (i : Int) (r : List Nd) : Prop :=
  (∃ (p : Nat) (k : Int) (y : ByteArray) (n : Int) (s : ByteArray) (c : Fo), i = p ∧ chk l = 0 ∧ l.length ≤ 4000 ∧ Tp.At l p (.node k y n s c .nil) ∧ r = cutF k n s c) ∨ ((i < 0 ∨ (l.length : Int) ≤ i ∨ chk l ≠ 0) ∧ r = [])
theorem part_ex (l : List Nd) (i : Int) : ∃ r, PartIs l i r := by
  by_cases h : i < 0 ∨ (l.length : Int) ≤ i ∨ chk l ≠ 0
  · exact ⟨_, .inr ⟨h, rfl⟩⟩
  · have h0 : chk l = 0 := Classical.byContradiction fun e => h (.inr (.inr e))
    obtain ⟨F, hF, _⟩ := may_of h0
    obtain ⟨p, hp⟩ := Int.eq_ofNat_of_zero_le (show 0 ≤ i by omega)
    have hl : l.length = Tp.sz F := by rw [← hF.2.1.2.2]; rfl
    have hA : Tp.At l 0 F := by rw [← hF.2.1.2.2]; exact Tp.at_flat F
    obtain ⟨k, y, n, s, c, h1, _⟩ := sub_at F 0 p hA hF.2.1.2.1 (by omega)
    rw [Nat.zero_add] at h1
    exact ⟨_, .inl ⟨p, k, y, n, s, c, hp, h0, hF.1, h1, rfl⟩⟩
end Go.Proofs.YtgmdjofnkbaflaaGreatDoor

/- Get: what stands beside a key. -/
namespace Go.Proofs.YtgmdjofnkbaflaaGreatDoor
open Go.RowKit
set_option linter.unusedVariables false
set_option maxRecDepth 100000

theorem plcs_keys : ∀ (o : Nat) (F : Fo), (plcs o F).length = (Tp.keys F).length
  | _, .nil => rfl
  | o, .node k y n s c r => by rw [plcs, Tp.keys, List.length_cons, List.length_cons, plcs_keys]
theorem plcs_at (o : Nat) (D : Fo) (k : Int) (y : ByteArray) (n : Int) (s : ByteArray) (c R : Fo) : (plcs o (Tp.app D (.node k y n s c R)))[(Tp.keys D).length]? = some ((o + Tp.sz D : Nat) : Int) := by
  rw [plcs_app, List.getElem?_append_right (by rw [plcs_keys o]; exact Nat.le_refl _), plcs_keys o, Nat.sub_self]
  rfl
theorem keys_split {C D R : Fo} (h : C = Tp.app D R) (j : Nat) (hj : j = (Tp.keys D).length) (hlt : j < (Tp.keys C).length) : ∃ k y n s c r, R = .node k y n s c r := by
  subst h; subst hj
  rw [Tp.keys_app, List.length_append] at hlt
  cases R with
  | nil => simp [Tp.keys] at hlt
  | node k y n s c r => exact ⟨_, _, _, _, _, _, rfl⟩
theorem keys_done {C D R : Fo} (h : C = Tp.app D R) (hlt : ¬ (Tp.keys D).length < (Tp.keys C).length) : C = D := by
  subst h
  rw [Tp.keys_app, List.length_append] at hlt
  cases R with
  | nil => rw [Tp.app_nil]
  | node k y n s c r => simp [Tp.keys] at hlt
/-- What stands beside a key, if something does. -/
def GetIs (l : List Nd) (key : ByteArray) (r : List Nd) (b : Bool) : Prop :=
  (∃ y n s c D k2 n2 s2 c2 R, May l (.node 7 y n s c .nil) ∧ c = Tp.app D (.node k2 key n2 s2 c2 R) ∧ key ∉ Tp.keys D ∧ r = cutF k2 n2 s2 c2 ∧ b = true) ∨
  (r = [] ∧ b = false ∧ (chk l ≠ 0 ∨ ∃ k y n s c, May l (.node k y n s c .nil) ∧ (k ≠ 7 ∨ key ∉ Tp.keys c)))
theorem first_key (key : ByteArray) : ∀ C : Fo, key ∈ Tp.keys C → ∃ D k2 n2 s2 c2 R, C = Tp.app D (.node k2 key n2 s2 c2 R) ∧ key ∉ Tp.keys D
  | .nil, h => by simp [Tp.keys] at h
  | .node k y n s c r, h => by
    by_cases e : y = key
    · subst e
      exact ⟨.nil, k, n, s, c, r, rfl, by simp [Tp.keys]⟩
    · have h2 : key ∈ Tp.keys r := by
        simp only [Tp.keys, List.mem_cons] at h
        exact h.resolve_left (fun e2 => e e2.symm)
      obtain ⟨D, k2, n2, s2, c2, R, rfl, hn⟩ := first_key key r h2
      refine ⟨.node k y n s c D, k2, n2, s2, c2, R, rfl, ?_⟩
      simp only [Tp.keys, List.mem_cons]
      exact fun hm => hm.elim (fun e2 => e e2.symm) hn
theorem get_ex (l : List Nd) (key : ByteArray) : ∃ r b, GetIs l key r b := by
  by_cases h0 : chk l = 0
  · obtain ⟨F, hF, _⟩ := may_of h0
    obtain ⟨⟨k, y, n, s, c, rfl, hy⟩, _⟩ := hF.2.1
    by_cases hk : k = 7 ∧ key ∈ Tp.keys c
    · obtain ⟨rfl, hm⟩ := hk
      obtain ⟨D, k2, n2, s2, c2, R, h1, h2⟩ := first_key key c hm
      exact ⟨_, true, .inl ⟨y, n, s, c, D, k2, n2, s2, c2, R, hF, h1, h2, rfl, rfl⟩⟩
    · exact ⟨[], false, .inr ⟨rfl, rfl, .inr ⟨k, y, n, s, c, hF, by
        by_cases h7 : k = 7
        · exact .inr fun hm => hk ⟨h7, hm⟩
        · exact .inl h7⟩⟩⟩
  · exact ⟨[], false, .inr ⟨rfl, rfl, .inl h0⟩⟩
/-- What Get leaves. -/
def GPost (w : World) (r : List Nd) (b : Bool) (e : Ending) (w' : World) : Prop := ∃ v', e = .returned (.tuple #[v', .bool b]) ∧ OwnN w' w.heap.size v' r ∧ Below w.heap.size w w'

/-- The first part with a key is one. -/
theorem first_same : ∀ {D D' : Fo} {k k' n n' : Int} {y y' s s' : ByteArray} {c c' R R' : Fo}, Tp.app D (.node k y n s c R) = Tp.app D' (.node k' y' n' s' c' R') → y ∉ Tp.keys D → y ∉ Tp.keys D' → y = y' → k = k' ∧ n = n' ∧ s = s' ∧ c = c'
  | .nil, .nil, _, _, _, _, _, _, _, _, _, _, _, _, h, _, _, _ => by
    simp only [Tp.app] at h
    injection h with e1 e2 e3 e4 e5 e6
    exact ⟨e1, e3, e4, e5⟩
  | .nil, .node k1 y1 n1 s1 c1 r1, _, _, _, _, _, _, _, _, _, _, _, _, h, _, hn, _ => by
    simp only [Tp.app] at h
    injection h with e1 e2
    exact absurd (by rw [e2]; simp [Tp.keys]) hn
  | .node k1 y1 n1 s1 c1 r1, .nil, _, _, _, _, _, _, _, _, _, _, _, _, h, hn, _, hy => by
    simp only [Tp.app] at h
    injection h with e1 e2
    exact absurd (by rw [hy, ← e2]; simp [Tp.keys]) hn
  | .node k1 y1 n1 s1 c1 r1, .node k2 y2 n2 s2 c2 r2, _, _, _, _, _, _, _, _, _, _, _, _, h, hn, hn', hy => by
    simp only [Tp.app] at h
    injection h with e1 e2 e3 e4 e5 e6
    exact first_same e6 (fun hm => hn (by simp [Tp.keys, hm])) (fun hm => hn' (by simp [Tp.keys, hm])) hy
/-- How far the loop over an object's keys is. -/
structure KI (c : Fo) (key : ByteArray) (D R : Fo) (j : Nat) : Prop where
  eq : c = Tp.app D R
  j : j = (Tp.keys D).length
  no : key ∉ Tp.keys D
end Go.Proofs.YtgmdjofnkbaflaaGreatDoor

/- The reference's Get. -/
namespace Go.Proofs.YtgmdjofnkbaflaaGreatDoor
open Go.RowKit
set_option linter.unusedVariables false
set_option maxRecDepth 100000

end Go.Proofs.YtgmdjofnkbaflaaGreatDoor

/- Lists and objects of parts, plainly; slices of slices, of texts. -/
namespace Go.Proofs.YtgmdjofnkbaflaaGreatDoor
open Go.RowKit
set_option linter.unusedVariables false
set_option maxRecDepth 100000

/-- A slice, as a value. -/
structure Sl where
  a : Option Addr
  n : Nat
  c : Nat
def Sl.val (s : Sl) : Value := .slice s.a s.n s.c
def slv (s : Sl) : List Value := [.slice s.a s.n s.c]
theorem slL : Gn.Lay slv 1 := ⟨fun _ => rfl, fun x v hv => by simp [slv] at hv; subst hv; rfl, by omega⟩
def RdT (w : World) (B : Nat) (v : Value) (l : List ByteArray) : Prop := Gn.Rd txc 1 w B v l
/-- Parts in a row, each one a slice of nodes. -/
structure RdS (w : World) (B : Nat) (v : Value) (ss : List Sl) (ls : List (List Nd)) : Prop where
  rd : Gn.Rd slv 1 w B v ss
  len : ss.length = ls.length
  each : ∀ (i : Nat) (s : Sl) (l : List Nd), ss[i]? = some s → ls[i]? = some l → RdN w B s.val l ∧ (∀ x ∈ l, Nok x)
theorem RdS.below {w w' : World} {B B' : Nat} {v : Value} {ss : List Sl} {ls : List (List Nd)} (h : RdS w B v ss ls) (hb : Below B' w w') (hB : B ≤ B') : RdS w' B v ss ls :=
  ⟨Gn.Rd.below h.rd hb hB, h.len, fun i s l h1 h2 => ⟨Gn.Rd.below (h.each i s l h1 h2).1 hb hB, (h.each i s l h1 h2).2⟩⟩
theorem RdS.more {w : World} {B B' : Nat} {v : Value} {ss : List Sl} {ls : List (List Nd)} (h : RdS w B v ss ls) (hB : B ≤ B') : RdS w B' v ss ls :=
  ⟨Gn.Rd.more h.rd hB, h.len, fun i s l h1 h2 => ⟨Gn.Rd.more (h.each i s l h1 h2).1 hB, (h.each i s l h1 h2).2⟩⟩
theorem rdS_cell {W w : World} {B n c : Nat} {ad : Option Addr} {ss : List Sl} {ls : List (List Nd)} (h : RdS W B (.slice ad n c) ss ls) (hb : Below B W w) {i : Nat} {s : Sl} (hi : ss[i]? = some s) :
    ∃ b off, ad = some ⟨b, off, none⟩ ∧ w.cell? ⟨b, off + i, none⟩ = some (.slice s.a s.n s.c) := by
  obtain ⟨hl, e⟩ := List.getElem?_eq_some_iff.1 hi
  obtain ⟨b, off, rfl, _, hc⟩ := Gn.Rd.at h.rd hb hl
  rw [e] at hc
  refine ⟨b, off, rfl, ?_⟩
  have := hc 0 _ rfl
  simpa using this
theorem rdT_cell {W w : World} {B n c : Nat} {ad : Option Addr} {l : List ByteArray} (h : RdT W B (.slice ad n c) l) (hb : Below B W w) {i : Nat} {x : ByteArray} (hi : l[i]? = some x) :
    ∃ b off, ad = some ⟨b, off, none⟩ ∧ w.cell? ⟨b, off + i, none⟩ = some (.string x) := by
  obtain ⟨hl, e⟩ := List.getElem?_eq_some_iff.1 hi
  obtain ⟨b, off, rfl, _, hc⟩ := Gn.Rd.at h hb hl
  rw [e] at hc
  refine ⟨b, off, rfl, ?_⟩
  have := hc 0 _ rfl
  simpa using this

/-- The error of a key, behind others. -/
noncomputable def ke (k : Int) (seen : List ByteArray) (y : ByteArray) : Int := if k = 7 then okey seen y else lkey y
/-- What is wrong with the first k members: the first thing. -/
noncomputable def jerr (k : Int) (ys : List ByteArray) (ls : List (List Nd)) : Nat → Int
  | 0 => 0
  | i + 1 => if jerr k ys ls i ≠ 0 then jerr k ys ls i else if ke k (ys.take i) (ys.getD i ⟨#[]⟩) ≠ 0 then ke k (ys.take i) (ys.getD i ⟨#[]⟩) else chk (ls.getD i [])
theorem jerr_sticks (k : Int) (ys : List ByteArray) (ls : List (List Nd)) (i : Nat) (h : jerr k ys ls i ≠ 0) : ∀ j, i ≤ j → jerr k ys ls j = jerr k ys ls i
  | 0, hj => by have : i = 0 := by omega
                subst this; rfl
  | j + 1, hj => by
    rcases Nat.lt_or_ge i (j + 1) with hlt | hge
    · have := jerr_sticks k ys ls i h j (by omega)
      rw [jerr, if_pos (by rw [this]; exact h), this]
    · have : i = j + 1 := by omega
      subst this; rfl
theorem jerr_key (k : Int) (ys : List ByteArray) (ls : List (List Nd)) (i : Nat) (h0 : jerr k ys ls i = 0) (h : ke k (ys.take i) (ys.getD i ⟨#[]⟩) ≠ 0) : jerr k ys ls (i + 1) = ke k (ys.take i) (ys.getD i ⟨#[]⟩) := by
  rw [jerr, if_neg (by simp [h0]), if_pos h]
theorem jerr_chk (k : Int) (ys : List ByteArray) (ls : List (List Nd)) (i : Nat) (h0 : jerr k ys ls i = 0) (h : ke k (ys.take i) (ys.getD i ⟨#[]⟩) = 0) : jerr k ys ls (i + 1) = chk (ls.getD i []) := by
  rw [jerr, if_neg (by simp [h0]), if_neg (fun hh => hh h)]
/-- How many nodes there are, and how deep, of the first k members. -/
def jsz (ls : List (List Nd)) (k : Nat) : Nat := 1 + ((ls.take k).map List.length).sum
noncomputable def jdp (ls : List (List Nd)) : Nat → Nat
  | 0 => 1
  | i + 1 => max (jdp ls i) (dpt (ls.getD i []) + 1)
theorem jsz_zero (ls : List (List Nd)) : jsz ls 0 = 1 := by simp [jsz]
theorem jsz_succ (ls : List (List Nd)) (k : Nat) (l : List Nd) (h : ls[k]? = some l) : jsz ls (k + 1) = jsz ls k + l.length := by
  have hk : k < ls.length := (List.getElem?_eq_some_iff.1 h).1
  unfold jsz
  rw [List.take_succ_eq_append_getElem hk, List.map_append, List.sum_append, (List.getElem?_eq_some_iff.1 h).2]
  simp; omega
theorem jsz_mono (ls : List (List Nd)) (k : Nat) : jsz ls k ≤ jsz ls (k + 1) := by
  rcases Nat.lt_or_ge k ls.length with hk | hk
  · rw [jsz_succ ls k _ (List.getElem?_eq_getElem hk)]; omega
  · unfold jsz; rw [List.take_of_length_le (by omega), List.take_of_length_le (by omega)]; exact Nat.le_refl _
theorem jsz_le (ls : List (List Nd)) {j k : Nat} (h : j ≤ k) : jsz ls j ≤ jsz ls k := by
  induction k with
  | zero => have : j = 0 := by omega
            subst this; exact Nat.le_refl _
  | succ k ih =>
    rcases Nat.lt_or_ge j (k + 1) with hlt | hge
    · exact Nat.le_trans (ih (by omega)) (jsz_mono ls k)
    · have : j = k + 1 := by omega
      subst this; exact Nat.le_refl _
theorem jdp_fit (ls : List (List Nd)) : ∀ k, jdp ls k ≤ 65 ∧ 1 ≤ jdp ls k
  | 0 => by simp [jdp]
  | k + 1 => by
    have h1 := jdp_fit ls k
    have h2 := (chk_fit (ls.getD k [])).2
    simp only [jdp]
    omega
/-- A part, with its key. -/
def setK (y : ByteArray) : List Nd → List Nd
  | [] => []
  | x :: t => { x with key := y } :: t
theorem setK_len (y : ByteArray) (l : List Nd) : (setK y l).length = l.length := by cases l <;> rfl
def jpt (ys : List ByteArray) (ls : List (List Nd)) (k : Nat) : List Nd := ((ys.zip ls).take k).flatMap fun p => setK p.1 p.2
theorem jpt_succ (ys : List ByteArray) (ls : List (List Nd)) (k : Nat) (y : ByteArray) (l : List Nd) (hy : ys[k]? = some y) (hl : ls[k]? = some l) : jpt ys ls (k + 1) = jpt ys ls k ++ setK y l := by
  have h1 : (ys.zip ls)[k]? = some (y, l) := by
    obtain ⟨a1, a2⟩ := List.getElem?_eq_some_iff.1 hy
    obtain ⟨b1, b2⟩ := List.getElem?_eq_some_iff.1 hl
    rw [List.getElem?_eq_getElem (by simp; omega)]
    simp [a2, b2]
  have hk := (List.getElem?_eq_some_iff.1 h1).1
  unfold jpt
  rw [List.take_succ_eq_append_getElem hk, List.flatMap_append, (List.getElem?_eq_some_iff.1 h1).2]
  simp
theorem jpt_len (ys : List ByteArray) (ls : List (List Nd)) (hlen : ys.length = ls.length) : ∀ k, k ≤ ls.length → 1 + (jpt ys ls k).length = jsz ls k
  | 0, _ => by simp [jpt, jsz]
  | k + 1, h => by
    have hk : k < ls.length := by omega
    rw [jpt_succ ys ls k ys[k] ls[k] (List.getElem?_eq_getElem (by omega)) (List.getElem?_eq_getElem hk), jsz_succ ls k _ (List.getElem?_eq_getElem hk), List.length_append, setK_len]
    have := jpt_len ys ls hlen k (by omega)
    omega
/-- The list, or the object, of parts; or what is wrong. -/
structure JoinIs (k : Int) (ys : List ByteArray) (ls : List (List Nd)) (r : List Nd) (e : Int) : Prop where
  is : (jerr k ys ls ls.length ≠ 0 ∧ e = jerr k ys ls ls.length ∧ r = []) ∨
    (jerr k ys ls ls.length = 0 ∧ ((4000 < jsz ls ls.length ∧ e = 5 ∧ r = []) ∨ (jsz ls ls.length ≤ 4000 ∧ 64 < jdp ls ls.length ∧ e = 72 ∧ r = []) ∨
      (jsz ls ls.length ≤ 4000 ∧ jdp ls ls.length ≤ 64 ∧ e = 0 ∧ r = ⟨k, ⟨#[]⟩, 0, ⟨#[]⟩, (jsz ls ls.length : Nat)⟩ :: jpt ys ls ls.length)))
theorem join_ex (k : Int) (ys : List ByteArray) (ls : List (List Nd)) : ∃ r e, JoinIs k ys ls r e := by
  by_cases h : jerr k ys ls ls.length = 0
  · by_cases h1 : 4000 < jsz ls ls.length
    · exact ⟨_, _, ⟨.inr ⟨h, .inl ⟨h1, rfl, rfl⟩⟩⟩⟩
    · by_cases h2 : 64 < jdp ls ls.length
      · exact ⟨_, _, ⟨.inr ⟨h, .inr (.inl ⟨by omega, h2, rfl, rfl⟩)⟩⟩⟩
      · exact ⟨_, _, ⟨.inr ⟨h, .inr (.inr ⟨by omega, by omega, rfl, rfl⟩)⟩⟩⟩
  · exact ⟨_, _, ⟨.inl ⟨h, rfl, rfl⟩⟩⟩
/-- What List and Obj leave. -/
def JPost (w : World) (r : List Nd) (x : Int) (e : Ending) (w' : World) : Prop := ∃ v', e = .returned (.tuple #[v', .int .i64 x]) ∧ OwnN w' w.heap.size v' r ∧ Below w.heap.size w w'
end Go.Proofs.YtgmdjofnkbaflaaGreatDoor

/- Rows of slices and of texts that a call owns, beside what the slices read as: told apart by the types of their blocks. -/
namespace Go.Proofs.YtgmdjofnkbaflaaGreatDoor
open Go.RowKit
set_option linter.unusedVariables false
set_option maxRecDepth 100000

def OwnS (w : World) (base : Nat) (v : Value) (ss : List Sl) : Prop := Gn.Own slv 1 22 w base v ss
def OwnT (w : World) (base : Nat) (v : Value) (l : List ByteArray) : Prop := Gn.Own txc 1 9 w base v l
theorem own_apart {α β : Type} {enc : α → List Value} {enc' : β → List Value} {k k' : Nat} {T T' : TypeId} {w : World} {B B' : Nat} {v v' : Value} {l : List α} {l' : List β} (h : Gn.Own enc k T w B v l) (h' : Gn.Own enc' k' T' w B' v' l') (hT : T ≠ T') :
    v.ownBlock = none ∨ v.ownBlock ≠ v'.ownBlock := by
  rcases h.2 with ⟨rfl, _⟩ | ⟨g, cap, cur, rfl, _, hh, _⟩
  · exact .inl rfl
  · refine .inr fun e => ?_
    rcases h'.2 with ⟨rfl, _⟩ | ⟨g', cap', cur', rfl, _, hh', _⟩
    · cases e
    · have e : g = g' := by simpa [Value.ownBlock] using e
      subst e
      rw [hh] at hh'
      injection hh' with hh'
      injection hh' with _ hh'
      exact hT hh'
/-- What slices hold, one by one: rows of nodes. -/
def EachO (w : World) (ss : List Sl) (ls : List (List Nd)) : Prop := ss.length = ls.length ∧ ∀ (i : Nat) (s : Sl) (l : List Nd), ss[i]? = some s → ls[i]? = some l → OwnN w 0 s.val l ∧ (∀ x ∈ l, Nok x)
theorem EachO.nil (w : World) : EachO w [] [] := ⟨rfl, fun i s l h => by simp at h⟩
theorem EachO.later {w w' : World} {ss : List Sl} {ls : List (List Nd)} (h : EachO w ss ls) (hb : Below w.heap.size w w') : EachO w' ss ls :=
  ⟨h.1, fun i s l h1 h2 => ⟨Gn.Own.later (h.2 i s l h1 h2).1 hb, (h.2 i s l h1 h2).2⟩⟩
theorem EachO.kept {α : Type} {enc : α → List Value} {k : Nat} {T : TypeId} {w w' : World} {B : Nat} {v : Value} {l : List α} {ss : List Sl} {ls : List (List Nd)} (h : EachO w ss ls) (ho : Gn.Own enc k T w B v l) (hT : 28 ≠ T) (hg : w.grownBy w' v.ownBlock) : EachO w' ss ls :=
  ⟨h.1, fun i s l h1 h2 => ⟨Gn.Own.kept (h.2 i s l h1 h2).1 hg (own_apart (h.2 i s l h1 h2).1 ho hT), (h.2 i s l h1 h2).2⟩⟩
theorem EachO.snoc {w : World} {ss : List Sl} {ls : List (List Nd)} {s : Sl} {l : List Nd} (h : EachO w ss ls) (hs : OwnN w 0 s.val l) (hok : ∀ x ∈ l, Nok x) : EachO w (ss ++ [s]) (ls ++ [l]) := by
  refine ⟨by simp [h.1], fun i s' l' h1 h2 => ?_⟩
  rcases Nat.lt_or_ge i ss.length with hi | hi
  · rw [List.getElem?_append_left hi] at h1
    rw [List.getElem?_append_left (by rw [← h.1]; exact hi)] at h2
    exact h.2 i s' l' h1 h2
  · rw [List.getElem?_append_right hi] at h1
    rw [List.getElem?_append_right (by rw [← h.1]; exact hi), ← h.1] at h2
    have h0 : i - ss.length = 0 := by
      rcases Nat.eq_zero_or_pos (i - ss.length) with h0 | h0
      · exact h0
      · rw [List.getElem?_eq_none (by simp; omega)] at h1; cases h1
    rw [h0] at h1 h2
    simp at h1 h2
    subst h1 h2
    exact ⟨hs, hok⟩
theorem EachO.rdS {w : World} {ss : List Sl} {ls : List (List Nd)} {base : Nat} {v : Value} (h : EachO w ss ls) (ho : OwnS w base v ss) : RdS w w.heap.size v ss ls :=
  ⟨Gn.Own.rd slL ho, h.1, fun i s l h1 h2 => ⟨Gn.Own.rd ndL (h.2 i s l h1 h2).1, (h.2 i s l h1 h2).2⟩⟩
theorem node_ne_sl : (28 : TypeId) ≠ 22 := by decide
theorem node_ne_tx : (28 : TypeId) ≠ 9 := by decide
theorem sl_ne_tx : (22 : TypeId) ≠ 9 := by decide
theorem tx_ne_sl : (9 : TypeId) ≠ 22 := by decide
theorem own_low {w : World} {B : Nat} {v : Value} {l : List Nd} (h : OwnN w B v l) : OwnN w 0 v l := Gn.Own.lower h (Nat.zero_le _)
/-- A slice that was laid for itself alone, a text. -/
theorem rdSl_one (w : World) (a : Option Addr) (n c : Nat) : Gn.Rd slv 1 (w.alloc (.cells #[.slice a n c] 22)) (w.alloc (.cells #[.slice a n c] 22)).heap.size (.slice (some ⟨w.heap.size, 0, none⟩) 1 1) [(⟨a, n, c⟩ : Sl)] := rd_one 22 slL w (⟨a, n, c⟩ : Sl) #[.slice a n c] rfl
theorem rdTx_one (w : World) (y : ByteArray) : Gn.Rd txc 1 (w.alloc (.cells #[.string y] 9)) (w.alloc (.cells #[.string y] 9)).heap.size (.slice (some ⟨w.heap.size, 0, none⟩) 1 1) [y] := rd_one 9 txL w y #[.string y] rfl
end Go.Proofs.YtgmdjofnkbaflaaGreatDoor

/- join, of lists and of objects (the program's). -/
namespace Go.Proofs.YtgmdjofnkbaflaaGreatDoor
open Go.RowKit
set_option linter.unusedVariables false
set_option maxRecDepth 100000

theorem node_make (w : World) (s : Nat) (hs : 1 ≤ s) (hm : s ≤ 4000) :
    (Instr.makeSlice 22 (.int .i64 1) (.int .i64 (s : Nat))).run Tryz.prog w = .ok (.slice (some ⟨w.heap.size, 0, none⟩) 1 s) (w.alloc (.cells (madeCells ndz.cells (s * 5)) 28)) := by
  obtain ⟨i, hi, hz, hsz, hby⟩ := ndY.parts
  have h := run_makeSlice w 22 28 i ndz Tryz.underlying22 hi hz .i64 .i64 1 (s : Nat) (by omega) (by omega) (by rw [hsz]; simp; omega) (by rw [hby]; omega) (by omega)
  simpa [hsz] using h
theorem made_take (s : Nat) (hs : 1 ≤ s) : (madeCells ndz.cells (s * 5)).toList.take 5 = ndc ⟨0, ⟨#[]⟩, 0, ⟨#[]⟩, 0⟩ ∧ (madeCells ndz.cells (s * 5)).size = s * 5 := by
  have hl : (madeCells ndz.cells (s * 5)).size = s * 5 := by simp [madeCells]
  refine ⟨?_, hl⟩
  apply List.ext_getElem?
  intro j
  by_cases hj : j < 5
  · rw [List.getElem?_take_of_lt hj, Array.getElem?_toList, Array.getElem?_eq_getElem (by rw [hl]; omega)]
    rcases (show j = 0 ∨ j = 1 ∨ j = 2 ∨ j = 3 ∨ j = 4 by omega) with rfl | rfl | rfl | rfl | rfl <;> simp [madeCells, ndz, ndc, Value.cells]
  · rw [List.getElem?_take_eq_none (by omega), List.getElem?_eq_none (by simp [ndc]; omega)]
/-- A row of nodes that was made: one node, room for more. -/
theorem own_made (w : World) (s : Nat) (hs : 1 ≤ s) (hm : s ≤ 4000) : OwnN (w.alloc (.cells (madeCells ndz.cells (s * 5)) 28)) w.heap.size (.slice (some ⟨w.heap.size, 0, none⟩) 1 s) [⟨0, ⟨#[]⟩, 0, ⟨#[]⟩, 0⟩] := by
  obtain ⟨h1, h2⟩ := made_take s hs
  refine ⟨rfl, .inr ⟨w.heap.size, s, _, rfl, Nat.le_refl _, heap_alloc_new w _, by simp; omega, by simp [maxLen]; omega, h2, ?_⟩⟩
  show List.take 5 _ = _
  rw [h1]; rfl
end Go.Proofs.YtgmdjofnkbaflaaGreatDoor

/- What joins forests to tapes, plainly. -/
namespace Go.Proofs.YtgmdjofnkbaflaaGreatDoor
open Go.RowKit
set_option linter.unusedVariables false
set_option maxRecDepth 100000

/-- The tapes of a forest's values. -/
def cks : Fo → List (List Nd)
  | .nil => []
  | .node k _ n s c r => cutF k n s c :: cks r
theorem cks_app : ∀ F G, cks (Tp.app F G) = cks F ++ cks G
  | .nil, _ => rfl
  | .node k y n s c r, G => by simp only [Tp.app, cks, List.cons_append]; rw [cks_app r G]
theorem cks_len : ∀ F, (cks F).length = (Tp.keys F).length
  | .nil => rfl
  | .node k y n s c r => by simp [cks, Tp.keys, cks_len r]
theorem flat_sz (F : Fo) : (Tp.flat F).length = Tp.sz F := rfl
theorem cut_may {k n : Int} {s y : ByteArray} {c : Fo} (hg : Tp.good (.node k y n s c .nil)) (hs : 1 + Tp.sz c ≤ 4000) (hd : 1 + Tp.dep c ≤ 64) : May (cutF k n s c) (.node k ⟨#[]⟩ n s c .nil) :=
  ⟨by show (Tp.flat _).length ≤ 4000; rw [flat_sz, Tp.sz_node, Tp.sz_nil]; omega, ⟨⟨k, ⟨#[]⟩, n, s, c, rfl, rfl⟩, hg, rfl⟩, by simp only [Tp.dep]; omega⟩
theorem ke_zero {k : Int} (hk : k = 6 ∨ k = 7) {seen : List ByteArray} {y : ByteArray} (h : Tp.ko k (seen ++ [y])) : ke k seen y = 0 := by
  have h1 := ((Tp.ko_snoc k seen y).1 h).2
  unfold ke
  split
  · next e => subst e; exact (okey_ok y seen).2 h1
  · next e => exact (lkey_ok y k seen e).2 h1
/-- The first q parts of a forest. -/
def JP (k : Int) (C : Fo) (q : Nat) : Prop := ∃ D R, C = Tp.app D R ∧ (Tp.keys D).length = q ∧ jerr k (Tp.keys C) (cks C) q = 0 ∧ jsz (cks C) q = 1 + Tp.sz D ∧ jdp (cks C) q = 1 + Tp.dep D ∧ jpt (Tp.keys C) (cks C) q = Tp.flat D
theorem jp {k : Int} (hk : k = 6 ∨ k = 7) {C : Fo} (hg : Tp.good C) (hko : Tp.ko k (Tp.keys C)) (hs : Tp.sz C ≤ 4000) (hd : Tp.dep C ≤ 64) : ∀ q, q ≤ (Tp.keys C).length → JP k C q
  | 0, _ => ⟨.nil, C, rfl, rfl, rfl, jsz_zero _, rfl, by simp [jpt]⟩
  | q + 1, h => by
    obtain ⟨D, R, hC, hq, h1, h2, h3, h4⟩ := jp hk hg hko hs hd q (by omega)
    cases R with
    | nil => rw [Tp.app_nil] at hC; rw [← hC] at hq; omega
    | node k1 y n s c r =>
      have hC2 : C = Tp.app (Tp.app D (.node k1 y n s c .nil)) r := by rw [Tp.app_assoc]; exact hC
      have ek : Tp.keys C = Tp.keys D ++ y :: Tp.keys r := by rw [hC, Tp.keys_app]; rfl
      have ec : cks C = cks D ++ cutF k1 n s c :: cks r := by rw [hC, cks_app]; rfl
      have hy : (Tp.keys C)[q]? = some y := by rw [ek, List.getElem?_append_right (by omega), hq, Nat.sub_self]; rfl
      have hl : (cks C)[q]? = some (cutF k1 n s c) := by rw [ec, List.getElem?_append_right (by rw [cks_len]; omega), cks_len, hq, Nat.sub_self]; rfl
      have ht : (Tp.keys C).take q = Tp.keys D := by rw [ek, ← hq, List.take_left']; rfl
      have hsz : Tp.sz C = Tp.sz D + (1 + Tp.sz c + Tp.sz r) := by rw [hC, Tp.sz_app, Tp.sz_node]
      have hdp : Tp.dep C = max (Tp.dep D) (max (1 + Tp.dep c) (Tp.dep r)) := by rw [hC, Tp.dep_app]; rfl
      have hgn : Tp.good (.node k1 y n s c .nil) := by
        have := ((Tp.good_app D _).1 (hC ▸ hg)).2
        exact ⟨this.1, this.2.1, this.2.2.1, this.2.2.2.1, trivial⟩
      have hm := may_chk (cut_may hgn (by omega) (by omega))
      have hke : ke k ((Tp.keys C).take q) ((Tp.keys C).getD q ⟨#[]⟩) = 0 := by
        rw [ht, List.getD_eq_getElem?_getD, hy]
        have hk2 : Tp.ko k ((Tp.keys D ++ [y]) ++ Tp.keys r) := by rw [List.append_assoc]; rw [ek] at hko; exact hko
        exact ke_zero hk (Tp.ko_append hk2).1
      have hgl : (cks C).getD q [] = cutF k1 n s c := by rw [List.getD_eq_getElem?_getD, hl]; rfl
      refine ⟨Tp.app D (.node k1 y n s c .nil), r, hC2, by rw [Tp.keys_app, List.length_append, hq]; rfl, ?_, ?_, ?_, ?_⟩
      · rw [jerr_chk k _ _ q h1 hke, hgl]; exact hm.1
      · rw [jsz_succ _ _ _ hl, h2, Tp.sz_app, Tp.sz_node, Tp.sz_nil]
        show 1 + Tp.sz D + (Tp.flat _).length = _
        rw [flat_sz, Tp.sz_node, Tp.sz_nil]; omega
      · rw [jdp, h3, hgl, hm.2, Tp.dep_app]
        simp only [Tp.dep]; omega
      · rw [jpt_succ _ _ _ _ _ hy hl, h4, Tp.flat_app]; rfl
theorem keys_none {F : Fo} (h : (Tp.keys F).length = 0) : F = .nil := by
  cases F with
  | nil => rfl
  | node k y n s c r => simp [Tp.keys] at h
theorem join_is {k : Int} (hk : k = 6 ∨ k = 7) {C : Fo} (hg : Tp.good C) (hko : Tp.ko k (Tp.keys C)) (hs : Tp.sz C ≤ 4000) (hd : Tp.dep C ≤ 64) {r : List Nd} {x : Int}
    (h : (1 + Tp.sz C ≤ 4000 ∧ 1 + Tp.dep C ≤ 64 ∧ x = 0 ∧ r = Tp.flat (.node k ⟨#[]⟩ 0 ⟨#[]⟩ C .nil)) ∨ (1 + Tp.sz C ≤ 4000 ∧ 64 < 1 + Tp.dep C ∧ x = 72 ∧ r = []) ∨ (4000 < 1 + Tp.sz C ∧ x = 5 ∧ r = [])) :
    JoinIs k (Tp.keys C) (cks C) r x := by
  obtain ⟨D, R, hC, hq, h1, h2, h3, h4⟩ := jp hk hg hko hs hd (Tp.keys C).length (Nat.le_refl _)
  obtain rfl : R = .nil := by
    refine keys_none ?_
    have := congrArg (fun F => (Tp.keys F).length) hC
    simp only [Tp.keys_app, List.length_append] at this
    omega
  rw [Tp.app_nil] at hC
  subst hC
  rw [← cks_len] at h1 h2 h3 h4
  refine ⟨.inr ⟨h1, ?_⟩⟩
  rw [h2, h3, h4]
  rcases h with ⟨a, b, rfl, rfl⟩ | ⟨a, b, rfl, rfl⟩ | ⟨a, rfl, rfl⟩
  · refine .inr (.inr ⟨a, b, rfl, ?_⟩)
    rw [Tp.flat_node]
    simp
  · exact .inr (.inl ⟨a, b, rfl, rfl⟩)
  · exact .inl ⟨a, rfl, rfl⟩
theorem size0 {y : ByteArray} (h : y.size = 0) : y = ⟨#[]⟩ := by
  apply ByteArray.ext
  exact Array.eq_empty_of_size_eq_zero h
theorem rep_keys {C : Fo} (h : Tp.ko 6 (Tp.keys C)) : Tp.keys C = List.replicate (cks C).length ⟨#[]⟩ := by
  rw [cks_len]
  unfold Tp.ko at h
  rw [if_neg (by omega)] at h
  exact List.eq_replicate_iff.2 ⟨rfl, fun y hy => size0 (h y hy)⟩
/-- Values, each below a key. -/
def mkC : List ByteArray → List Fo → Fo
  | y :: ys, .node k _ n s c _ :: Fs => .node k y n s c (mkC ys Fs)
  | _, _ => .nil
def Root (F : Fo) : Prop := ∃ k n s c, F = .node k ⟨#[]⟩ n s c .nil
theorem may_root {l : List Nd} {F : Fo} (h : May l F) : Root F := by
  obtain ⟨_, ⟨⟨k, y, n, s, c, rfl, hy⟩, _⟩, _⟩ := h
  exact ⟨k, n, s, c, by rw [size0 hy]⟩
structure MkIs (ys : List ByteArray) (Fs : List Fo) (C : Fo) : Prop where
  cks : cks C = Fs.map Tp.flat
  keys : Tp.keys C = ys
  good : (∀ F ∈ Fs, Tp.good F) → Tp.good C
  sz : Tp.sz C = (Fs.map Tp.sz).sum
  dep : ∀ d, Tp.dep C ≤ d ↔ ∀ F ∈ Fs, Tp.dep F ≤ d
theorem mk_is : ∀ (ys : List ByteArray) (Fs : List Fo), ys.length = Fs.length → (∀ F ∈ Fs, Root F) → MkIs ys Fs (mkC ys Fs)
  | [], [], _, _ => ⟨rfl, rfl, fun _ => trivial, rfl, fun d => by simp [mkC, Tp.dep]⟩
  | y :: ys, F :: Fs, h, hR => by
    obtain ⟨k, n, s, c, rfl⟩ := hR F (List.mem_cons_self ..)
    have ih := mk_is ys Fs (by simpa using h) (fun G hG => hR G (List.mem_cons_of_mem _ hG))
    refine ⟨by show cutF k n s c :: Go.Proofs.YtgmdjofnkbaflaaGreatDoor.cks (mkC ys Fs) = _; rw [ih.cks]; rfl, by show y :: Tp.keys (mkC ys Fs) = _; rw [ih.keys], fun hg => ?_, ?_, fun d => ?_⟩
    · have h1 := hg _ (List.mem_cons_self ..)
      exact ⟨h1.1, h1.2.1, h1.2.2.1, h1.2.2.2.1, ih.good (fun G hG => hg G (List.mem_cons_of_mem _ hG))⟩
    · show Tp.sz (.node k y n s c (mkC ys Fs)) = _
      rw [Tp.sz_node, ih.sz, List.map_cons, List.sum_cons, Tp.sz_node, Tp.sz_nil]
      omega
    · show Tp.dep (.node k y n s c (mkC ys Fs)) ≤ d ↔ _
      simp only [Tp.dep, List.forall_mem_cons]
      rw [← ih.dep d]
      omega
  | [], _ :: _, h, _ => by simp at h
  | _ :: _, [], h, _ => by simp at h
end Go.Proofs.YtgmdjofnkbaflaaGreatDoor

/- join, of lists and of objects (the program's): walked. -/
namespace Go.Proofs.YtgmdjofnkbaflaaGreatDoor
open Go.RowKit
set_option linter.unusedVariables false
set_option maxRecDepth 100000

theorem join_err {k : Int} {ys : List ByteArray} {ls : List (List Nd)} {r : List Nd} {x : Int} (h : JoinIs k ys ls r x) {q : Nat} (hq : q < ls.length) {e : Int} (he : jerr k ys ls (q + 1) = e) (h0 : e ≠ 0) : x = e ∧ r = [] := by
  have hs := jerr_sticks k ys ls (q + 1) (by rw [he]; exact h0) ls.length (by omega)
  rw [he] at hs
  rcases h.is with ⟨_, h2, h3⟩ | ⟨h1, _⟩
  · exact ⟨h2.trans hs, h3⟩
  · rw [hs] at h1; exact absurd h1 h0
theorem join_end {k : Int} {ys : List ByteArray} {ls : List (List Nd)} {r : List Nd} {x : Int} (h : JoinIs k ys ls r x) (h0 : jerr k ys ls ls.length = 0) :
    (4000 < jsz ls ls.length ∧ x = 5 ∧ r = []) ∨ (jsz ls ls.length ≤ 4000 ∧ 64 < jdp ls ls.length ∧ x = 72 ∧ r = []) ∨ (jsz ls ls.length ≤ 4000 ∧ jdp ls ls.length ≤ 64 ∧ x = 0 ∧ r = ⟨k, ⟨#[]⟩, 0, ⟨#[]⟩, (jsz ls ls.length : Nat)⟩ :: jpt ys ls ls.length) := by
  rcases h.is with ⟨h1, _⟩ | ⟨_, h2⟩
  · exact absurd h0 h1
  · exact h2
theorem chk_zero_len {l : List Nd} (h : chk l = 0) : 1 ≤ l.length ∧ l.length ≤ 4000 := by
  obtain ⟨F, hF, _⟩ := may_of h
  obtain ⟨hl, ⟨⟨k, y, n, s, c, rfl, _⟩, _, hfl⟩, _⟩ := hF
  refine ⟨?_, hl⟩
  rw [← hfl, Tp.flat_node]; simp
theorem jerr_part {k : Int} {ys : List ByteArray} {ls : List (List Nd)} {q j : Nat} (h : jerr k ys ls q = 0) (hj : j < q) : chk (ls.getD j []) = 0 := by
  have h1 : jerr k ys ls (j + 1) = 0 := by
    rcases Classical.em (jerr k ys ls (j + 1) = 0) with e | e
    · exact e
    · have := jerr_sticks k ys ls (j + 1) e q (by omega)
      rw [h] at this; exact absurd this.symm e
  rw [jerr] at h1
  split at h1
  · next e => exact absurd h1 e
  · split at h1
    · next e => exact absurd h1 e
    · exact h1
theorem set_key (acc : List Nd) (x : Nd) (l : List Nd) (y : ByteArray) : (acc ++ x :: l).set acc.length { x with key := y } = acc ++ setK y (x :: l) := by
  rw [List.set_append_right (h := Nat.le_refl _), Nat.sub_self]; rfl
theorem getD_at {α : Type} {l : List α} {q : Nat} {x d : α} (h : l[q]? = some x) : l.getD q d = x := by rw [List.getD_eq_getElem?_getD, h]; rfl
theorem take_at {α : Type} {l : List α} {q : Nat} {x : α} (h : l[q]? = some x) : l.take (q + 1) = l.take q ++ [x] := by
  obtain ⟨hq, e⟩ := List.getElem?_eq_some_iff.1 h
  rw [List.take_succ_eq_append_getElem hq, e]
theorem row_more {w w' : World} {base : Nat} {v v' : Value} {acc l : List Nd} (ho : OwnN w base v acc) (hg : w.grownBy w' v.ownBlock) (hb : base ≤ w.heap.size) : Below base w w' := Gn.below_of_own ho hg hb

set_option maxHeartbeats 8000000 in
theorem join6 (kv lv : Value) (ys : List ByteArray) (ss : List Sl) (ls : List (List Nd)) (w : World) (hK : RdT w w.heap.size kv ys) (hS : RdS w w.heap.size lv ss ls) (hys : ∀ y ∈ ys, y.size ≤ maxLen) (hlen : ys.length = ls.length) (hll : ls.length ≤ 100000) (T : Tab w) (r : List Nd) (x : Int) (hr : JoinIs 6 ys ls r x) :
    Calls Tryz.prog 70 #[.int .i64 6, kv, lv] w fun e w' => JPost w r x e w' := by
  have HK := Lib.hid hK
  have HS := Lib.hid hS
  have HT := Lib.hid T
  have HJ := Lib.hid hr
  have HY := Lib.hid hys
  have hsl := hS.len
  obtain ⟨kb, kc, rfl, _⟩ := Gn.Rd.form hK
  obtain ⟨lb, lc, rfl, _⟩ := Gn.Rd.form hS.rd
  obtain ⟨N, hN⟩ : ∃ N, ls.length = N := ⟨_, rfl⟩
  have hky : ys.length = N := hlen.trans hN
  have hks : ss.length = N := hsl.trans hN
  rw [hky] at HK ⊢
  rw [hks] at HS ⊢
  have HN := Lib.hid hN
  have hN0 : N ≤ 100000 := by omega
  have HKY := Lib.hid hky
  have HKS := Lib.hid hks
  clear hK hS T hr hys hsl hll hlen hN hky hks
  go_enter Tryz.func70, Tryz.ntmps70
  go_wp2_with fail
  have HK1 := Lib.hid (fun w => keysof_list 6 (by omega) w)
  ((with_reducible refine (HK1.out _).mono ?_); rintro e w2 ⟨rfl, rfl⟩)
  have HB2 := Lib.hid (Below.refl w.heap.size w)
  go_wp2_with fail
  clear HK1
  go_loopw [8, 9, 24] (fun z d i wr => ∃ (q Z D : Nat), z = .int .i64 (Z : Nat) ∧ d = .int .i64 (D : Nat) ∧ i = .int .i64 (q : Nat) ∧ q ≤ N ∧ Z ≤ 1 + 4000 * q ∧ 1 ≤ Z ∧ D ≤ 65 ∧ Hid (jsz ls q = Z ∧ jdp ls q = D) ∧ Hid (jerr 6 ys ls q = 0) ∧ Hid (Below w.heap.size w wr)) (fun _ _ i _ => N - (intOf i).toNat)
  case atStart => exact ⟨0, 1, 1, by rfl, by rfl, by rfl, by omega, by omega, by omega, by omega, Lib.hid ⟨jsz_zero ls, rfl⟩, Lib.hid rfl, HB2⟩
  case round =>
    obtain ⟨q, Z, D, rfl, rfl, rfl, hq, hZ, hZ1, hD, HZ, HE, HB⟩ := hrel
    by_cases hlt : q < N
    · have hlt1 : (q : Int) < N := by omega
      obtain ⟨s, hs⟩ : ∃ s, ss[q]? = some s := ⟨_, List.getElem?_eq_getElem (by have := HKS.out; omega)⟩
      obtain ⟨l, hl⟩ : ∃ l, ls[q]? = some l := ⟨_, List.getElem?_eq_getElem (by have := HN.out; omega)⟩
      obtain ⟨y, hy⟩ : ∃ y, ys[q]? = some y := ⟨_, List.getElem?_eq_getElem (by have := HKY.out; omega)⟩
      obtain ⟨b1, o1, rfl, c1⟩ := rdS_cell HS.out HB.out hs
      obtain ⟨b2, o2, rfl, c2⟩ := rdT_cell HK.out HB.out hy
      obtain ⟨hrs, hok⟩ := HS.out.each q s l hs hl
      obtain ⟨sa, sn, sc⟩ := s
      have HRS := Lib.hid (Gn.Rd.later hrs HB.out)
      obtain ⟨_, _, e0, _⟩ := Gn.Rd.form hrs
      obtain rfl : sn = l.length := by injection e0
      have CL := Lib.hid (fun (wb : World) (hb : Below wr.heap.size wr wb) (ee : Int) (dd : Nat) (h1 : chk l = ee) (h2 : dpt l = dd) => look _ l wb (Gn.Rd.later HRS.out hb) hok ((HT.out.later HB.out).later hb) ee dd h1 h2)
      have HL := Lib.hid hl
      have HYQ := Lib.hid hy
      simp only at c1
      unfold Sl.val at CL
      have CA := Lib.hid (fun w => ask_list y w)
      obtain ⟨ke1, hke⟩ : ∃ k1, lkey y = k1 := ⟨_, rfl⟩
      rw [hke] at CA
      clear hrs hok e0 hs hl hy HRS
      go_wp2_with fail
      ((with_reducible refine (CA.out _).mono ?_); rintro e w5 ⟨rfl, rfl⟩)
      by_cases hk : ke1 = 0
      · have HKK : Hid (lkey y = 0) := Lib.hid (hke.trans hk)
        subst hk
        clear CA hke
        obtain ⟨ee, hee⟩ : ∃ ee, chk l = ee := ⟨_, rfl⟩
        obtain ⟨dd, hdd⟩ : ∃ dd, dpt l = dd := ⟨_, rfl⟩
        have CL2 := Lib.hid (fun (wb : World) (hb : Below wr.heap.size wr wb) => CL.out wb hb ee dd hee hdd)
        have hdd2 : dd ≤ 64 := by rw [← hdd]; exact (chk_fit l).2
        have HCE : Hid (jerr 6 ys ls (q + 1) = ee) := Lib.hid (by rw [jerr_chk 6 ys ls q HE.out (by rw [ke, if_neg (by omega), getD_at HYQ.out]; exact HKK.out), getD_at HL.out]; exact hee)
        have HEE := Lib.hid hee
        have HDD := Lib.hid hdd
        clear hee hdd CL
        go_wp2_with fail
        ((with_reducible refine (CL2.out _ (Below.refl _ _)).mono ?_); rintro e w6 ⟨rfl, b6⟩)
        have HB4 := Lib.hid (up HB.out b6)
        clear b6
        by_cases h0 : ee = 0
        · have hln := chk_zero_len (HEE.out.trans h0)
          obtain ⟨nl, hnl⟩ : ∃ n, l.length = n := ⟨_, rfl⟩
          rw [hnl] at hln
          have HJS : Hid (jsz ls (q + 1) = Z + nl ∧ jdp ls (q + 1) = max D (dd + 1)) := Lib.hid ⟨by rw [jsz_succ ls q l HL.out, HZ.out.1, hnl], by rw [jdp, HZ.out.2, getD_at HL.out, HDD.out]⟩
          have HCE0 : Hid (jerr 6 ys ls (q + 1) = 0) := Lib.hid (HCE.out.trans h0)
          have wr1 : (Z : Int) + nl ≤ 500000000 := by omega
          rw [hnl]
          subst h0
          clear hnl HEE CL2 HCE c1 c2
          go_wp2_with fail
          go_roundw
          case rel => exact ⟨q + 1, Z + nl, max D (dd + 1), by go_num, by congr 1; omega, by go_num, by omega, by omega, by omega, by omega, HJS, HCE0, HB4⟩
          case measure => simp [intOf]; omega
        · have h0' : ((ee : Int) != 0) = true := by simpa using h0
          obtain ⟨rfl, rfl⟩ := join_err HJ.out (by have := HN.out; omega) HCE.out h0
          clear h0 CL2 HCE HEE
          go_wp2_with fail
          go_ret2
          exact ⟨_, rfl, Gn.Own.nil _ _, HB4.out⟩
      · have hk' : ((ke1 : Int) != 0) = true := by simpa using hk
        obtain ⟨rfl, rfl⟩ := join_err HJ.out (q := q) (by have := HN.out; omega) ((jerr_key 6 ys ls q HE.out (by rw [ke, if_neg (by omega), getD_at HYQ.out, hke]; exact hk)).trans (by rw [ke, if_neg (by omega), getD_at HYQ.out, hke])) hk
        clear hk CA CL hke
        go_wp2_with fail
        go_ret2
        exact ⟨_, rfl, Gn.Own.nil _ _, HB.out⟩
    · have hlt1 : ¬ (q : Int) < N := by omega
      obtain rfl : q = N := by omega
      have HEND := Lib.hid (join_end HJ.out (by rw [HN.out]; exact HE.out))
      rw [HN.out, HZ.out.1, HZ.out.2] at HEND
      rcases HEND.out with ⟨h1, rfl, rfl⟩ | ⟨h1, h2, rfl, rfl⟩ | ⟨h1, h2, rfl, rfl⟩
      · have h1' : (4000 : Int) < Z := by omega
        clear HEND
        go_wp2_with fail
        go_ret2
        exact ⟨_, rfl, Gn.Own.nil _ _, HB.out⟩
      · have h1' : ¬ (4000 : Int) < Z := by omega
        have h2' : (64 : Int) < D := by omega
        clear HEND
        go_wp2_with fail
        go_ret2
        exact ⟨_, rfl, Gn.Own.nil _ _, HB.out⟩
      · have h1' : ¬ (4000 : Int) < Z := by omega
        have h2' : ¬ (64 : Int) < D := by omega
        have R := node_make wr Z (by omega) h1
        have HO := Lib.hid (own_made wr Z (by omega) h1)
        obtain ⟨M, hM⟩ : ∃ M, M = madeCells ndz.cells (Z * 5) := ⟨_, rfl⟩
        rw [← hM] at R HO
        have HU := Lib.hid (up_new wr (.cells M 28))
        obtain ⟨wz, hwz⟩ : ∃ wz, wz = wr.alloc (.cells M 28) := ⟨_, rfl⟩
        rw [← hwz] at R HO HU
        clear hwz
        obtain ⟨p0, p1, p2, p3, p4⟩ : (wz.cell? ⟨wr.heap.size, 0, none⟩ = some (.int .i64 0) ∧ wz.cell? ⟨wr.heap.size, 1, none⟩ = some (.string ⟨#[]⟩) ∧ wz.cell? ⟨wr.heap.size, 2, none⟩ = some (.int .i64 0) ∧ wz.cell? ⟨wr.heap.size, 3, none⟩ = some (.string ⟨#[]⟩) ∧ wz.cell? ⟨wr.heap.size, 4, none⟩ = some (.int .i64 0)) := by
          obtain ⟨b', o', e', y0, y1, y2, y3, y4⟩ := rdN_cells (Gn.Own.rd ndL HO.out) (Below.refl _ _) (i := 0) rfl
          obtain ⟨rfl, rfl⟩ : wr.heap.size = b' ∧ 0 = o' := by injection e' with e'; injection e' with e1 e2; exact ⟨e1, e2⟩
          exact ⟨y0, y1, y2, y3, y4⟩
        have hfz := own_melt HO.out rfl
        have HW := Lib.hid (own_whole (i := 0) ⟨6, ⟨#[]⟩, 0, ⟨#[]⟩, (Z : Nat)⟩ HO.out rfl rfl)
        simp only [Nat.zero_mul, Nat.zero_add, List.set_cons_zero] at HW
        have hgw : w.heap.size ≤ wr.heap.size := HB.out.size
        have hg0 := Nat.le_refl wr.heap.size
        have HUW := Lib.hid (HU.out.setCell (p := ⟨wr.heap.size, 0, none⟩) hg0 (.int .i64 6) |>.setCell (p := ⟨wr.heap.size, 1, none⟩) hg0 (.string ⟨#[]⟩) |>.setCell (p := ⟨wr.heap.size, 2, none⟩) hg0 (.int .i64 0) |>.setCell (p := ⟨wr.heap.size, 3, none⟩) hg0 (.string ⟨#[]⟩) |>.setCell (p := ⟨wr.heap.size, 4, none⟩) hg0 (.int .i64 (Z : Nat)))
        have HZN : Hid (jsz ls q = Z) := Lib.hid HZ.out.1
        have HEE0 := Lib.hid HE.out
        obtain ⟨G, hG⟩ : ∃ G, G = wr.heap.size := ⟨_, rfl⟩
        have HGW : Hid (w.heap.size ≤ G) := Lib.hid (by rw [hG]; exact hgw)
        have HW' : Hid (OwnN _ G _ _) := Lib.hid (by rw [hG]; exact HW.out)
        have HBW : Hid (Below w.heap.size w wr ∧ G = wr.heap.size) := Lib.hid ⟨HB.out, hG⟩
        have HUW' : Hid (Below G wr _) := Lib.hid (by rw [hG]; exact HUW.out)
        obtain ⟨wo, hwo⟩ : ∃ wo, wo = wr := ⟨_, rfl⟩
        rw [← hwo] at HBW
        have HUW2 : Hid (Below G wo _) := Lib.hid (by rw [hwo]; exact HUW'.out)
        clear hM HEND HZ HE HW hG hgw HUW HUW' hwo hg0
        go_wp2_with fail
        clear p0 p1 p2 p3 p4 hfz R HO HU
        go_loopw [16, 68] (fun t i wx => ∃ (j : Nat), i = .int .i64 (j : Nat) ∧ j ≤ q ∧ Hid (OwnN wx G t (⟨6, ⟨#[]⟩, 0, ⟨#[]⟩, (Z : Nat)⟩ :: jpt ys ls j)) ∧ Hid (Below G wo wx)) (fun _ i _ => q - (intOf i).toNat)
        case atStart => exact ⟨0, by rfl, by omega, HW', HUW2⟩
        case round =>
          obtain ⟨j, rfl, hj, HO2, HBG⟩ := hrel
          have HBX := Lib.hid (HBW.out.1.trans (HBG.out.mono HGW.out))
          have hGx : G ≤ wr.heap.size := by have := HBG.out.size; have := HBW.out.2; omega
          obtain ⟨ta, tc, rfl, _⟩ := Gn.Rd.form (Gn.Own.rd ndL HO2.out)
          obtain ⟨A, hA⟩ : ∃ A, ((⟨6, ⟨#[]⟩, 0, ⟨#[]⟩, (Z : Nat)⟩ : Nd) :: jpt ys ls j) = A := ⟨_, rfl⟩
          obtain ⟨m, hm⟩ : ∃ m, A.length = m := ⟨_, rfl⟩
          rw [hA, hm] at HO2 ⊢
          have hmj : m = jsz ls j := by
            rw [← hm, ← hA, List.length_cons, Nat.add_comm]
            exact jpt_len ys ls (by rw [HKY.out, HN.out]) j (by rw [HN.out]; exact hj)
          by_cases hlt2 : j < q
          · have hlt3 : (j : Int) < q := by omega
            obtain ⟨s, hs⟩ : ∃ s, ss[j]? = some s := ⟨_, List.getElem?_eq_getElem (by have := HKS.out; omega)⟩
            obtain ⟨l, hl⟩ : ∃ l, ls[j]? = some l := ⟨_, List.getElem?_eq_getElem (by have := HN.out; omega)⟩
            obtain ⟨y, hy⟩ : ∃ y, ys[j]? = some y := ⟨_, List.getElem?_eq_getElem (by have := HKY.out; omega)⟩
            obtain ⟨b1, o1, rfl, c1⟩ := rdS_cell HS.out HBX.out hs
            obtain ⟨b2, o2, rfl, _⟩ := rdT_cell HK.out HBX.out hy
            obtain ⟨hrs, hok⟩ := HS.out.each j s l hs hl
            obtain ⟨sa, sn, sc⟩ := s
            have HRS := Lib.hid (Gn.Rd.later hrs HBX.out)
            obtain ⟨_, _, e0, _⟩ := Gn.Rd.form hrs
            obtain rfl : sn = l.length := by injection e0
            unfold Sl.val at HRS
            have hcl : chk l = 0 := by
              have := jerr_part HEE0.out hlt2
              rwa [getD_at hl] at this
            obtain ⟨x, l', rfl⟩ : ∃ x l', l = x :: l' := by
              have := (chk_zero_len hcl).1
              cases l with
              | nil => simp at this
              | cons x l' => exact ⟨x, l', rfl⟩
            have hsum : m + (x :: l').length ≤ 4000 := by
              rw [hmj, ← jsz_succ ls j _ hl]
              have := jsz_le ls (j := j + 1) (k := q) (by omega)
              have := HZN.out
              omega
            obtain ⟨L, hLL⟩ : ∃ L, (x :: l').length = L := ⟨_, rfl⟩
            have hLp : 1 ≤ L := by rw [← hLL]; simp
            have HLL := Lib.hid hLL
            rw [hLL] at HRS hsum c1
            have HYQ := Lib.hid hy
            have HAN : Hid ((⟨6, ⟨#[]⟩, 0, ⟨#[]⟩, (Z : Nat)⟩ : Nd) :: jpt ys ls (j + 1) = A ++ setK y (x :: l')) := Lib.hid (by rw [jpt_succ ys ls j y _ hy hl, ← hA]; rfl)
            have HM := Lib.hid hm
            clear e0 hrs hok hs hl hy hcl hmj hA hm hLL
            simp only at c1
            go_wp2_with (at_builtin
                         refine Gn.wpList_app ndL ndY rfl (.tmp 75) (.tmp 76) rfl G _ A rfl HO2.out _ (x :: l') rfl HRS.out (by rw [HM.out, HLL.out]; omega) hGx ?_
                         intro v1 w6 ho6 hg6 hl6 hn6
                         have HBG6 := Lib.hid (HBG.out.trans (Gn.below_of_own HO2.out hg6 hGx))
                         have HB6 := Lib.hid (HBW.out.1.trans (HBG6.out.mono HGW.out))
                         obtain ⟨b3, o3, e3, c3⟩ := rdT_cell HK.out HB6.out HYQ.out
                         obtain ⟨rfl, rfl⟩ : b2 = b3 ∧ o2 = o3 := by injection e3 with e3; injection e3 with e1 e2; exact ⟨e1, e2⟩
                         obtain ⟨a6, c6, rfl, _⟩ := Gn.Rd.form (Gn.Own.rd ndL ho6)
                         obtain ⟨N6, hN6⟩ : ∃ n, (A ++ x :: l').length = n := ⟨_, rfl⟩
                         have hN6' : N6 = m + L := by rw [← hN6, List.length_append, HM.out, HLL.out]
                         rw [hN6] at ho6
                         obtain ⟨g6, rfl⟩ := own_addr ho6 (by rw [hN6]; omega)
                         have hfz := own_melt ho6 hN6
                         have c4 : w6.cell? ⟨g6, m * 5 + 1, none⟩ = some (.string x.key) := by
                           obtain ⟨b', o', e', y0, y1, y2, y3, y4⟩ := rdN_cells (hN6 ▸ Gn.Own.rd ndL ho6) (Below.refl _ _) (i := m) (x := x) (by rw [← HM.out, List.getElem?_append_right (Nat.le_refl _), Nat.sub_self]; rfl)
                           obtain ⟨rfl, rfl⟩ : g6 = b' ∧ 0 = o' := by injection e' with e'; injection e' with e1 e2; exact ⟨e1, e2⟩
                           rw [Nat.zero_add] at y1; exact y1
                         have hmN : (m : Int) < (N6 : Nat) := by omega
                         have HP := Lib.hid (own_put (i := m) (x := x) (m := 1) (u := .string y) (x' := ⟨x.kind, y, x.n, x.s, x.size⟩) ho6 hN6 (by rw [← HM.out, List.getElem?_append_right (Nat.le_refl _), Nat.sub_self]; rfl) rfl (by omega))
                         have HBP := Lib.hid (HBG6.out.setCell (p := ⟨g6, m * 5 + 1, none⟩) (ho6.lt g6 rfl).1 (.string y))
                         clear e3 hg6 hl6 hn6 hN6' ho6)
            have HFX := Lib.hid HP.out
            go_roundw
            case rel =>
              refine ⟨j + 1, by go_num, by omega, Lib.hid ?_, HBP⟩
              rw [HAN.out]
              have := HP.out
              rw [← HM.out, set_key] at this
              rw [HM.out] at this
              exact this
            case measure => simp [intOf]; omega
          · have hlt3 : ¬ (j : Int) < q := by omega
            obtain rfl : j = q := by omega
            have HFIN := Lib.hid (Gn.Own.lower HO2.out HGW.out)
            clear hmj hm
            subst hA
            go_wp2_with fail
            go_ret2
            exact ⟨_, rfl, HFIN.out, HBX.out⟩

set_option maxHeartbeats 8000000 in
theorem join7 (kv lv : Value) (ys : List ByteArray) (ss : List Sl) (ls : List (List Nd)) (w : World) (hK : RdT w w.heap.size kv ys) (hS : RdS w w.heap.size lv ss ls) (hys : ∀ y ∈ ys, y.size ≤ maxLen) (hlen : ys.length = ls.length) (hll : ls.length ≤ 100000) (T : Tab w) (r : List Nd) (x : Int) (hr : JoinIs 7 ys ls r x) :
    Calls Tryz.prog 70 #[.int .i64 7, kv, lv] w fun e w' => JPost w r x e w' := by
  have HK := Lib.hid hK
  have HS := Lib.hid hS
  have HT := Lib.hid T
  have HJ := Lib.hid hr
  have HY := Lib.hid hys
  have hsl := hS.len
  obtain ⟨kb, kc, rfl, _⟩ := Gn.Rd.form hK
  obtain ⟨lb, lc, rfl, _⟩ := Gn.Rd.form hS.rd
  obtain ⟨N, hN⟩ : ∃ N, ls.length = N := ⟨_, rfl⟩
  have hky : ys.length = N := hlen.trans hN
  have hks : ss.length = N := hsl.trans hN
  rw [hky] at HK ⊢
  rw [hks] at HS ⊢
  have HN := Lib.hid hN
  have hN0 : N ≤ 100000 := by omega
  have HKY := Lib.hid hky
  have HKS := Lib.hid hks
  clear hK hS T hr hys hsl hll hlen hN hky hks
  go_enter Tryz.func70, Tryz.ntmps70
  go_wp2_with fail
  have HK1 := Lib.hid (fun w => keysof_obj w)
  ((with_reducible refine (HK1.out _).mono ?_); rintro e w2' ⟨m, g, rfl, hset, hg, b2⟩)
  obtain ⟨w2, hw2⟩ : ∃ w2, w2 = w := ⟨_, rfl⟩
  rw [← hw2] at hset
  have HW2 := Lib.hid hw2
  have HSET := Lib.hid hset
  have HB2 := Lib.hid b2
  have hgg : w.heap.size ≤ g := hg
  have hmm : w.heap.size ≤ m := by rw [← hw2]; exact hset.1
  clear hset hg b2 hw2
  go_wp2_with fail
  clear HK1
  go_loopw [8, 9, 24] (fun z d i wr => ∃ (q Z D : Nat), z = .int .i64 (Z : Nat) ∧ d = .int .i64 (D : Nat) ∧ i = .int .i64 (q : Nat) ∧ q ≤ N ∧ Z ≤ 1 + 4000 * q ∧ 1 ≤ Z ∧ D ≤ 65 ∧ Hid (jsz ls q = Z ∧ jdp ls q = D) ∧ Hid (jerr 7 ys ls q = 0) ∧ Hid (SetV wr w2.heap.size m g (ys.take q)) ∧ Hid (Below w.heap.size w wr)) (fun _ _ i _ => N - (intOf i).toNat)
  case atStart => exact ⟨0, 1, 1, by rfl, by rfl, by rfl, by omega, by omega, by omega, by omega, Lib.hid ⟨jsz_zero ls, rfl⟩, Lib.hid rfl, HSET, HB2⟩
  case round =>
    obtain ⟨q, Z, D, rfl, rfl, rfl, hq, hZ, hZ1, hD, HZ, HE, HSV, HB⟩ := hrel
    by_cases hlt : q < N
    · have hlt1 : (q : Int) < N := by omega
      obtain ⟨s, hs⟩ : ∃ s, ss[q]? = some s := ⟨_, List.getElem?_eq_getElem (by have := HKS.out; omega)⟩
      obtain ⟨l, hl⟩ : ∃ l, ls[q]? = some l := ⟨_, List.getElem?_eq_getElem (by have := HN.out; omega)⟩
      obtain ⟨y, hy⟩ : ∃ y, ys[q]? = some y := ⟨_, List.getElem?_eq_getElem (by have := HKY.out; omega)⟩
      obtain ⟨b1, o1, rfl, c1⟩ := rdS_cell HS.out HB.out hs
      obtain ⟨b2, o2, rfl, c2⟩ := rdT_cell HK.out HB.out hy
      obtain ⟨hrs, hok⟩ := HS.out.each q s l hs hl
      obtain ⟨sa, sn, sc⟩ := s
      have HRS := Lib.hid hrs
      obtain ⟨_, _, e0, _⟩ := Gn.Rd.form hrs
      obtain rfl : sn = l.length := by injection e0
      have CL := Lib.hid (fun (wb : World) (hb : Below w.heap.size w wb) (ee : Int) (dd : Nat) (h1 : chk l = ee) (h2 : dpt l = dd) => look _ l wb (Gn.Rd.later HRS.out hb) hok (HT.out.later hb) ee dd h1 h2)
      have HL := Lib.hid hl
      have HYQ := Lib.hid hy
      simp only at c1
      unfold Sl.val at CL
      have CA := Lib.hid (asks_obj y (ys.take q) _ m g wr (HT.out.later HB.out) (HY.out y (List.mem_of_getElem? hy)) HSV.out)
      obtain ⟨ke1, hke⟩ : ∃ k1, okey (ys.take q) y = k1 := ⟨_, rfl⟩
      rw [hke] at CA
      clear hrs hok e0 hs hl hy HRS
      go_wp2_with fail
      ((with_reducible refine (CA.out).mono ?_); rintro e w5 ⟨rfl, ht5, hs5⟩)
      have HB5 := Lib.hid (ht5.below (B := w.heap.size) HB.out.size (fun i hi => by rw [hi]; exact hmm))
      have HBB := Lib.hid (HB.out.trans HB5.out)
      clear ht5
      by_cases hk : ke1 = 0
      · have HKK : Hid (okey (ys.take q) y = 0) := Lib.hid (hke.trans hk)
        have HSV5 : Hid (SetV w5 w2.heap.size m g (ys.take (q + 1))) := Lib.hid (by rw [take_at HYQ.out]; exact hs5 hk)
        subst hk
        clear CA hke hs5
        obtain ⟨ee, hee⟩ : ∃ ee, chk l = ee := ⟨_, rfl⟩
        obtain ⟨dd, hdd⟩ : ∃ dd, dpt l = dd := ⟨_, rfl⟩
        have CL2 := Lib.hid (fun (wb : World) (hb : Below w.heap.size w wb) => CL.out wb hb ee dd hee hdd)
        have hdd2 : dd ≤ 64 := by rw [← hdd]; exact (chk_fit l).2
        have HCE : Hid (jerr 7 ys ls (q + 1) = ee) := Lib.hid (by rw [jerr_chk 7 ys ls q HE.out (by rw [ke, if_pos rfl, getD_at HYQ.out]; exact HKK.out), getD_at HL.out]; exact hee)
        have HEE := Lib.hid hee
        have HDD := Lib.hid hdd
        clear hee hdd CL
        go_wp2_with fail
        ((with_reducible refine (CL2.out _ HBB.out).mono ?_); rintro e w6 ⟨rfl, b6⟩)
        have HB4 := Lib.hid (up HBB.out b6)
        have HSV4 := Lib.hid (HSV5.out.later b6)
        clear b6
        by_cases h0 : ee = 0
        · have hln := chk_zero_len (HEE.out.trans h0)
          obtain ⟨nl, hnl⟩ : ∃ n, l.length = n := ⟨_, rfl⟩
          rw [hnl] at hln
          have HJS : Hid (jsz ls (q + 1) = Z + nl ∧ jdp ls (q + 1) = max D (dd + 1)) := Lib.hid ⟨by rw [jsz_succ ls q l HL.out, HZ.out.1, hnl], by rw [jdp, HZ.out.2, getD_at HL.out, HDD.out]⟩
          have HCE0 : Hid (jerr 7 ys ls (q + 1) = 0) := Lib.hid (HCE.out.trans h0)
          have wr1 : (Z : Int) + nl ≤ 500000000 := by omega
          rw [hnl]
          subst h0
          clear hnl HEE CL2 HCE c1 c2
          go_wp2_with fail
          go_roundw
          case rel => exact ⟨q + 1, Z + nl, max D (dd + 1), by go_num, by congr 1; omega, by go_num, by omega, by omega, by omega, by omega, HJS, HCE0, HSV4, HB4⟩
          case measure => simp [intOf]; omega
        · have h0' : ((ee : Int) != 0) = true := by simpa using h0
          obtain ⟨rfl, rfl⟩ := join_err HJ.out (by have := HN.out; omega) HCE.out h0
          clear h0 CL2 HCE HEE
          go_wp2_with fail
          go_ret2
          exact ⟨_, rfl, Gn.Own.nil _ _, HB4.out⟩
      · have hk' : ((ke1 : Int) != 0) = true := by simpa using hk
        obtain ⟨rfl, rfl⟩ := join_err HJ.out (q := q) (by have := HN.out; omega) ((jerr_key 7 ys ls q HE.out (by rw [ke, if_pos rfl, getD_at HYQ.out, hke]; exact hk)).trans (by rw [ke, if_pos rfl, getD_at HYQ.out, hke])) hk
        clear hk CA CL hke hs5
        go_wp2_with fail
        go_ret2
        exact ⟨_, rfl, Gn.Own.nil _ _, HBB.out⟩
    · have hlt1 : ¬ (q : Int) < N := by omega
      obtain rfl : q = N := by omega
      have HEND := Lib.hid (join_end HJ.out (by rw [HN.out]; exact HE.out))
      rw [HN.out, HZ.out.1, HZ.out.2] at HEND
      rcases HEND.out with ⟨h1, rfl, rfl⟩ | ⟨h1, h2, rfl, rfl⟩ | ⟨h1, h2, rfl, rfl⟩
      · have h1' : (4000 : Int) < Z := by omega
        clear HEND
        go_wp2_with fail
        go_ret2
        exact ⟨_, rfl, Gn.Own.nil _ _, HB.out⟩
      · have h1' : ¬ (4000 : Int) < Z := by omega
        have h2' : (64 : Int) < D := by omega
        clear HEND
        go_wp2_with fail
        go_ret2
        exact ⟨_, rfl, Gn.Own.nil _ _, HB.out⟩
      · have h1' : ¬ (4000 : Int) < Z := by omega
        have h2' : ¬ (64 : Int) < D := by omega
        have R := node_make wr Z (by omega) h1
        have HO := Lib.hid (own_made wr Z (by omega) h1)
        obtain ⟨M, hM⟩ : ∃ M, M = madeCells ndz.cells (Z * 5) := ⟨_, rfl⟩
        rw [← hM] at R HO
        have HU := Lib.hid (up_new wr (.cells M 28))
        obtain ⟨wz, hwz⟩ : ∃ wz, wz = wr.alloc (.cells M 28) := ⟨_, rfl⟩
        rw [← hwz] at R HO HU
        clear hwz
        obtain ⟨p0, p1, p2, p3, p4⟩ : (wz.cell? ⟨wr.heap.size, 0, none⟩ = some (.int .i64 0) ∧ wz.cell? ⟨wr.heap.size, 1, none⟩ = some (.string ⟨#[]⟩) ∧ wz.cell? ⟨wr.heap.size, 2, none⟩ = some (.int .i64 0) ∧ wz.cell? ⟨wr.heap.size, 3, none⟩ = some (.string ⟨#[]⟩) ∧ wz.cell? ⟨wr.heap.size, 4, none⟩ = some (.int .i64 0)) := by
          obtain ⟨b', o', e', y0, y1, y2, y3, y4⟩ := rdN_cells (Gn.Own.rd ndL HO.out) (Below.refl _ _) (i := 0) rfl
          obtain ⟨rfl, rfl⟩ : wr.heap.size = b' ∧ 0 = o' := by injection e' with e'; injection e' with e1 e2; exact ⟨e1, e2⟩
          exact ⟨y0, y1, y2, y3, y4⟩
        have hfz := own_melt HO.out rfl
        have HW := Lib.hid (own_whole (i := 0) ⟨7, ⟨#[]⟩, 0, ⟨#[]⟩, (Z : Nat)⟩ HO.out rfl rfl)
        simp only [Nat.zero_mul, Nat.zero_add, List.set_cons_zero] at HW
        have hgw : w.heap.size ≤ wr.heap.size := HB.out.size
        have hg0 := Nat.le_refl wr.heap.size
        have HUW := Lib.hid (HU.out.setCell (p := ⟨wr.heap.size, 0, none⟩) hg0 (.int .i64 7) |>.setCell (p := ⟨wr.heap.size, 1, none⟩) hg0 (.string ⟨#[]⟩) |>.setCell (p := ⟨wr.heap.size, 2, none⟩) hg0 (.int .i64 0) |>.setCell (p := ⟨wr.heap.size, 3, none⟩) hg0 (.string ⟨#[]⟩) |>.setCell (p := ⟨wr.heap.size, 4, none⟩) hg0 (.int .i64 (Z : Nat)))
        have HZN : Hid (jsz ls q = Z) := Lib.hid HZ.out.1
        have HEE0 := Lib.hid HE.out
        obtain ⟨G, hG⟩ : ∃ G, G = wr.heap.size := ⟨_, rfl⟩
        have HGW : Hid (w.heap.size ≤ G) := Lib.hid (by rw [hG]; exact hgw)
        have HW' : Hid (OwnN _ G _ _) := Lib.hid (by rw [hG]; exact HW.out)
        have HBW : Hid (Below w.heap.size w wr ∧ G = wr.heap.size) := Lib.hid ⟨HB.out, hG⟩
        have HUW' : Hid (Below G wr _) := Lib.hid (by rw [hG]; exact HUW.out)
        obtain ⟨wo, hwo⟩ : ∃ wo, wo = wr := ⟨_, rfl⟩
        rw [← hwo] at HBW
        have HUW2 : Hid (Below G wo _) := Lib.hid (by rw [hwo]; exact HUW'.out)
        clear hM HEND HZ HE HW hG hgw HUW HUW' hwo hg0
        go_wp2_with fail
        clear p0 p1 p2 p3 p4 hfz R HO HU
        go_loopw [16, 68] (fun t i wx => ∃ (j : Nat), i = .int .i64 (j : Nat) ∧ j ≤ q ∧ Hid (OwnN wx G t (⟨7, ⟨#[]⟩, 0, ⟨#[]⟩, (Z : Nat)⟩ :: jpt ys ls j)) ∧ Hid (Below G wo wx)) (fun _ i _ => q - (intOf i).toNat)
        case atStart => exact ⟨0, by rfl, by omega, HW', HUW2⟩
        case round =>
          obtain ⟨j, rfl, hj, HO2, HBG⟩ := hrel
          have HBX := Lib.hid (HBW.out.1.trans (HBG.out.mono HGW.out))
          have hGx : G ≤ wr.heap.size := by have := HBG.out.size; have := HBW.out.2; omega
          obtain ⟨ta, tc, rfl, _⟩ := Gn.Rd.form (Gn.Own.rd ndL HO2.out)
          obtain ⟨A, hA⟩ : ∃ A, ((⟨7, ⟨#[]⟩, 0, ⟨#[]⟩, (Z : Nat)⟩ : Nd) :: jpt ys ls j) = A := ⟨_, rfl⟩
          obtain ⟨m, hm⟩ : ∃ m, A.length = m := ⟨_, rfl⟩
          rw [hA, hm] at HO2 ⊢
          have hmj : m = jsz ls j := by
            rw [← hm, ← hA, List.length_cons, Nat.add_comm]
            exact jpt_len ys ls (by rw [HKY.out, HN.out]) j (by rw [HN.out]; exact hj)
          by_cases hlt2 : j < q
          · have hlt3 : (j : Int) < q := by omega
            obtain ⟨s, hs⟩ : ∃ s, ss[j]? = some s := ⟨_, List.getElem?_eq_getElem (by have := HKS.out; omega)⟩
            obtain ⟨l, hl⟩ : ∃ l, ls[j]? = some l := ⟨_, List.getElem?_eq_getElem (by have := HN.out; omega)⟩
            obtain ⟨y, hy⟩ : ∃ y, ys[j]? = some y := ⟨_, List.getElem?_eq_getElem (by have := HKY.out; omega)⟩
            obtain ⟨b1, o1, rfl, c1⟩ := rdS_cell HS.out HBX.out hs
            obtain ⟨b2, o2, rfl, _⟩ := rdT_cell HK.out HBX.out hy
            obtain ⟨hrs, hok⟩ := HS.out.each j s l hs hl
            obtain ⟨sa, sn, sc⟩ := s
            have HRS := Lib.hid (Gn.Rd.later hrs HBX.out)
            obtain ⟨_, _, e0, _⟩ := Gn.Rd.form hrs
            obtain rfl : sn = l.length := by injection e0
            unfold Sl.val at HRS
            have hcl : chk l = 0 := by
              have := jerr_part HEE0.out hlt2
              rwa [getD_at hl] at this
            obtain ⟨x, l', rfl⟩ : ∃ x l', l = x :: l' := by
              have := (chk_zero_len hcl).1
              cases l with
              | nil => simp at this
              | cons x l' => exact ⟨x, l', rfl⟩
            have hsum : m + (x :: l').length ≤ 4000 := by
              rw [hmj, ← jsz_succ ls j _ hl]
              have := jsz_le ls (j := j + 1) (k := q) (by omega)
              have := HZN.out
              omega
            obtain ⟨L, hLL⟩ : ∃ L, (x :: l').length = L := ⟨_, rfl⟩
            have hLp : 1 ≤ L := by rw [← hLL]; simp
            have HLL := Lib.hid hLL
            rw [hLL] at HRS hsum c1
            have HYQ := Lib.hid hy
            have HAN : Hid ((⟨7, ⟨#[]⟩, 0, ⟨#[]⟩, (Z : Nat)⟩ : Nd) :: jpt ys ls (j + 1) = A ++ setK y (x :: l')) := Lib.hid (by rw [jpt_succ ys ls j y _ hy hl, ← hA]; rfl)
            have HM := Lib.hid hm
            clear e0 hrs hok hs hl hy hcl hmj hA hm hLL
            simp only at c1
            go_wp2_with (at_builtin
                         refine Gn.wpList_app ndL ndY rfl (.tmp 75) (.tmp 76) rfl G _ A rfl HO2.out _ (x :: l') rfl HRS.out (by rw [HM.out, HLL.out]; omega) hGx ?_
                         intro v1 w6 ho6 hg6 hl6 hn6
                         have HBG6 := Lib.hid (HBG.out.trans (Gn.below_of_own HO2.out hg6 hGx))
                         have HB6 := Lib.hid (HBW.out.1.trans (HBG6.out.mono HGW.out))
                         obtain ⟨b3, o3, e3, c3⟩ := rdT_cell HK.out HB6.out HYQ.out
                         obtain ⟨rfl, rfl⟩ : b2 = b3 ∧ o2 = o3 := by injection e3 with e3; injection e3 with e1 e2; exact ⟨e1, e2⟩
                         obtain ⟨a6, c6, rfl, _⟩ := Gn.Rd.form (Gn.Own.rd ndL ho6)
                         obtain ⟨N6, hN6⟩ : ∃ n, (A ++ x :: l').length = n := ⟨_, rfl⟩
                         have hN6' : N6 = m + L := by rw [← hN6, List.length_append, HM.out, HLL.out]
                         rw [hN6] at ho6
                         obtain ⟨g6, rfl⟩ := own_addr ho6 (by rw [hN6]; omega)
                         have hfz := own_melt ho6 hN6
                         have c4 : w6.cell? ⟨g6, m * 5 + 1, none⟩ = some (.string x.key) := by
                           obtain ⟨b', o', e', y0, y1, y2, y3, y4⟩ := rdN_cells (hN6 ▸ Gn.Own.rd ndL ho6) (Below.refl _ _) (i := m) (x := x) (by rw [← HM.out, List.getElem?_append_right (Nat.le_refl _), Nat.sub_self]; rfl)
                           obtain ⟨rfl, rfl⟩ : g6 = b' ∧ 0 = o' := by injection e' with e'; injection e' with e1 e2; exact ⟨e1, e2⟩
                           rw [Nat.zero_add] at y1; exact y1
                         have hmN : (m : Int) < (N6 : Nat) := by omega
                         have HP := Lib.hid (own_put (i := m) (x := x) (m := 1) (u := .string y) (x' := ⟨x.kind, y, x.n, x.s, x.size⟩) ho6 hN6 (by rw [← HM.out, List.getElem?_append_right (Nat.le_refl _), Nat.sub_self]; rfl) rfl (by omega))
                         have HBP := Lib.hid (HBG6.out.setCell (p := ⟨g6, m * 5 + 1, none⟩) (ho6.lt g6 rfl).1 (.string y))
                         clear e3 hg6 hl6 hn6 hN6' ho6)
            have HFX := Lib.hid HP.out
            go_roundw
            case rel =>
              refine ⟨j + 1, by go_num, by omega, Lib.hid ?_, HBP⟩
              rw [HAN.out]
              have := HP.out
              rw [← HM.out, set_key] at this
              rw [HM.out] at this
              exact this
            case measure => simp [intOf]; omega
          · have hlt3 : ¬ (j : Int) < q := by omega
            obtain rfl : j = q := by omega
            have HFIN := Lib.hid (Gn.Own.lower HO2.out HGW.out)
            clear hmj hm
            subst hA
            go_wp2_with fail
            go_ret2
            exact ⟨_, rfl, HFIN.out, HBX.out⟩
end Go.Proofs.YtgmdjofnkbaflaaGreatDoor

/- List and Obj (the program's). -/
namespace Go.Proofs.YtgmdjofnkbaflaaGreatDoor
open Go.RowKit
set_option linter.unusedVariables false
set_option maxRecDepth 100000

theorem tx_make (w : World) (n : Nat) (hm : n ≤ 100000) :
    (Instr.makeSlice 43 (.int .i64 (n : Nat)) (.int .i64 (n : Nat))).run Tryz.prog w = .ok (.slice (some ⟨w.heap.size, 0, none⟩) n n) (w.alloc (.cells (madeCells (Value.string ⟨#[]⟩).cells n) 9)) := by
  obtain ⟨i, hi, hz, hsz, hby⟩ := txY.parts
  have h := run_makeSlice w 43 9 i (.string ⟨#[]⟩) Tryz.underlying43 hi hz .i64 .i64 (n : Nat) (n : Nat) (by omega) (by omega) (by rw [hsz]; simp; omega) (by rw [hby]; omega) (by omega)
  simpa [hsz] using h
theorem made_text (n j : Nat) (h : j < n) : (madeCells (Value.string ⟨#[]⟩).cells n).toList[j]? = some (.string ⟨#[]⟩) := by
  rw [Array.getElem?_toList, Array.getElem?_eq_getElem (by simpa [madeCells] using h)]
  simp [madeCells, Value.cells, Nat.mod_one]
theorem rd_texts (w : World) (n : Nat) (hm : n ≤ 100000) : RdT (w.alloc (.cells (madeCells (Value.string ⟨#[]⟩).cells n) 9)) (w.alloc (.cells (madeCells (Value.string ⟨#[]⟩).cells n) 9)).heap.size (.slice (some ⟨w.heap.size, 0, none⟩) n n) (List.replicate n ⟨#[]⟩) := by
  refine ⟨some ⟨w.heap.size, 0, none⟩, n, by simp, by simp, by simp [maxLen]; omega, by simp, fun hp => ⟨w.heap.size, 0, rfl, by simp, fun i x j u hi hj => ?_⟩⟩
  have hl := (List.getElem?_eq_some_iff.1 hi).1
  rw [List.getElem?_replicate] at hi
  have hin : i < n := by simpa using hl
  rw [if_pos hin] at hi
  obtain rfl : x = ⟨#[]⟩ := by injection hi with hi; exact hi.symm
  have hj0 : j = 0 := by have := (List.getElem?_eq_some_iff.1 hj).1; simp [txc] at this; exact this
  subst hj0
  have e := (Blk.new w 9 (madeCells (Value.string ⟨#[]⟩).cells n)).cell i
  rw [made_text n i hin] at e
  have : u = .string ⟨#[]⟩ := by simpa [txc] using hj.symm
  subst this
  simpa using e
/-- The list of parts, or what is wrong. -/
def ListIs (ls : List (List Nd)) (r : List Nd) (x : Int) : Prop := JoinIs 6 (List.replicate ls.length ⟨#[]⟩) ls r x
/-- The object of members, or what is wrong. -/
def ObjIs (ys : List ByteArray) (ls : List (List Nd)) (r : List Nd) (x : Int) : Prop := (ys.length ≠ ls.length ∧ x = 2 ∧ r = []) ∨ (ys.length = ls.length ∧ JoinIs 7 ys ls r x)
theorem list_ex (ls : List (List Nd)) : ∃ r x, ListIs ls r x := join_ex _ _ _
theorem obj_ex (ys : List ByteArray) (ls : List (List Nd)) : ∃ r x, ObjIs ys ls r x := by
  by_cases h : ys.length = ls.length
  · obtain ⟨r, x, hj⟩ := join_ex 7 ys ls
    exact ⟨r, x, .inr ⟨h, hj⟩⟩
  · exact ⟨[], 2, .inl ⟨h, rfl, rfl⟩⟩

set_option maxHeartbeats 2000000 in
theorem mkList (lv : Value) (ss : List Sl) (ls : List (List Nd)) (w : World) (hS : RdS w w.heap.size lv ss ls) (hll : ls.length ≤ 100000) (T : Tab w) (r : List Nd) (x : Int) (hr : ListIs ls r x) :
    Calls Tryz.prog 32 #[lv] w fun e w' => JPost w r x e w' := by
  have HS := Lib.hid hS
  obtain ⟨N, hN⟩ : ∃ N, ls.length = N := ⟨_, rfl⟩
  have hks : ss.length = N := hS.len.trans hN
  obtain ⟨lb, lc, rfl, _⟩ := Gn.Rd.form hS.rd
  rw [hks] at HS ⊢
  have hN0 : N ≤ 100000 := by omega
  have RM := tx_make w N hN0
  have HM := Lib.hid (rd_texts w N hN0)
  obtain ⟨M, hM⟩ : ∃ M, M = madeCells (Value.string ⟨#[]⟩).cells N := ⟨_, rfl⟩
  rw [← hM] at RM HM
  have HU := Lib.hid (up_new w (.cells M 9))
  have CJ := Lib.hid (join6 _ _ (List.replicate N ⟨#[]⟩) ss ls _ HM.out (HS.out.below HU.out (Nat.le_refl _) |>.more HU.out.size) (by intro y hy; rw [(List.mem_replicate.1 hy).2]; exact Nat.zero_le _) (by simp [hN]) hll (T.later HU.out) r x (by unfold ListIs at hr; rwa [hN] at hr))
  clear hS hM hr T hks hN hll
  go_enter Tryz.func32, Tryz.ntmps32
  go_wp2_with fail
  ((with_reducible refine (CJ.out).mono ?_); rintro e w2 ⟨v2, rfl, ho2, b2⟩)
  have HB := Lib.hid (up HU.out b2)
  have HO := Lib.hid (Gn.Own.lower ho2 HU.out.size)
  clear ho2 b2 RM
  go_wp2_with fail
  go_ret2
  exact ⟨_, rfl, HO.out, HB.out⟩

set_option maxHeartbeats 2000000 in
theorem mkObj (kv lv : Value) (ys : List ByteArray) (ss : List Sl) (ls : List (List Nd)) (w : World) (hK : RdT w w.heap.size kv ys) (hS : RdS w w.heap.size lv ss ls) (hys : ∀ y ∈ ys, y.size ≤ maxLen) (hll : ls.length ≤ 100000) (T : Tab w) (r : List Nd) (x : Int) (hr : ObjIs ys ls r x) :
    Calls Tryz.prog 91 #[kv, lv] w fun e w' => JPost w r x e w' := by
  have HK := Lib.hid hK
  have HS := Lib.hid hS
  obtain ⟨kb, kc, rfl, _⟩ := Gn.Rd.form hK
  obtain ⟨lb, lc, rfl, _⟩ := Gn.Rd.form hS.rd
  have hks : ss.length = ls.length := hS.len
  have h1 := hK.len'
  rw [hks] at HS ⊢
  rcases hr with ⟨hne, rfl, rfl⟩ | ⟨he, hj⟩
  · have hne' : ((ys.length : Int) != (ls.length : Int)) = true := by simp; omega
    have hne2 : ¬ ((ys.length : Int) = (ls.length : Int)) := by omega
    clear hK hS T hks hne
    go_enter Tryz.func91, Tryz.ntmps91
    go_wp2_with fail
    go_ret2
    exact ⟨_, rfl, Gn.Own.nil _ _, Below.refl _ _⟩
  · obtain ⟨N, hN⟩ : ∃ N, ls.length = N := ⟨_, rfl⟩
    have CJ := Lib.hid (join7 _ _ ys ss ls w HK.out HS.out hys he hll T r x hj)
    rw [he, hN] at CJ ⊢
    have hN0 : N ≤ 100000 := by omega
    clear hK hS T hks hj hys h1 he hN hll HK HS
    go_enter Tryz.func91, Tryz.ntmps91
    go_wp2_with fail
    ((with_reducible refine (CJ.out).mono ?_); rintro e w2 ⟨v2, rfl, ho2, b2⟩)
    have HB := Lib.hid b2
    have HO := Lib.hid ho2
    clear ho2 b2
    go_wp2_with fail
    go_ret2
    exact ⟨_, rfl, HO.out, HB.out⟩
end Go.Proofs.YtgmdjofnkbaflaaGreatDoor
