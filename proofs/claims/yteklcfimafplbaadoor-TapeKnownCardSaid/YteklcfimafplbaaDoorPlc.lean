/- The trees that stand at places, plainly. -/
import Derived.Test.YteklcfimafplbaaDoorSort
namespace Go.Proofs.YteklcfimafplbaaDoor
open Go.RowKit
set_option linter.unusedVariables false
set_option maxRecDepth 100000

theorem trs_sT : ∀ F : Fo, Tp.trs (Tp.sT F) = (Tp.trs F).map Tp.sT
  | .nil => rfl
  | .node k y n s c r => by rw [Tp.sT, Tp.trs, Tp.trs, List.map_cons, trs_sT r]; rfl
/-- Places, as numbers of nodes. -/
def plN : Nat → Fo → List Nat
  | _, .nil => []
  | o, .node k y n s c r => o :: plN (o + 1 + Tp.sz c) r
theorem plcs_plN : ∀ (o : Nat) (F : Fo), plcs o F = (plN o F).map fun (x : Nat) => (x : Int)
  | _, .nil => rfl
  | o, .node k y n s c r => by rw [plcs, plN, List.map_cons, plcs_plN]
/-- The tree at a place. -/
noncomputable def treeAt (l : List Nd) (p : Nat) : Fo := open Classical in if h : ∃ F, Tp.Val l p (l.length - p) F then h.choose else .nil
theorem treeAt_is {l : List Nd} {p : Nat} {F : Fo} {m : Nat} (h : Tp.Val l p m F) : treeAt l p = F := by
  have h' : ∃ F, Tp.Val l p (l.length - p) F := ⟨F, h.1, h.2.1, h.2.2.1, Tp.At.len h.2.1⟩
  unfold treeAt
  rw [dif_pos h']
  exact Tp.val_one h'.choose_spec h
theorem plN_lt {l : List Nd} : ∀ (o : Nat) (F : Fo), Tp.At l o F → ∀ p ∈ plN o F, p < l.length
  | _, .nil, _, p, hp => by simp [plN] at hp
  | o, .node k y n s c r, h, p, hp => by
    obtain ⟨h0, h1, h2⟩ := Tp.at_node.1 h
    rcases List.mem_cons.1 hp with rfl | hp
    · exact (List.getElem?_eq_some_iff.1 h0).1
    · exact plN_lt _ r h2 p hp
theorem plN_trees {l : List Nd} : ∀ (o : Nat) (F : Fo), Tp.At l o F → Tp.good F → (plN o F).map (treeAt l) = Tp.trs F
  | _, .nil, _, _ => rfl
  | o, .node k y n s c r, h, ⟨g1, g2, g3, g4, g5⟩ => by
    obtain ⟨h0, h1, h2⟩ := Tp.at_node.1 h
    rw [plN, List.map_cons, Tp.trs, plN_trees _ r h2 g5]
    rw [treeAt_is (F := .node k y n s c .nil) (m := l.length) ⟨⟨_, _, _, _, _, rfl⟩, Tp.at_node.2 ⟨h0, h1, Tp.At.nil _ _⟩, ⟨g1, g2, g3, g4, trivial⟩, by have := Tp.At.len (Tp.at_node.2 ⟨h0, h1, Tp.At.nil l (o + 1 + Tp.sz c)⟩); omega⟩]
theorem plN_keys {l : List Nd} : ∀ (o : Nat) (F : Fo), Tp.At l o F → Tp.good F → ∀ p ∈ plN o F, keyAt l p = Tp.kyo (treeAt l p) ∧ ∃ k y n s c, treeAt l p = .node k y n s c .nil ∧ Tp.At l p (.node k y n s c .nil) ∧ Tp.good (.node k y n s c .nil) ∧ Tp.sz (.node k y n s c .nil) ≤ Tp.sz F
  | _, .nil, _, _, p, hp => by simp [plN] at hp
  | o, .node k y n s c r, h, ⟨g1, g2, g3, g4, g5⟩, p, hp => by
    obtain ⟨h0, h1, h2⟩ := Tp.at_node.1 h
    rcases List.mem_cons.1 hp with rfl | hp
    · have hA : Tp.At l p (.node k y n s c .nil) := Tp.at_node.2 ⟨h0, h1, Tp.At.nil _ _⟩
      have hg : Tp.good (.node k y n s c .nil) := ⟨g1, g2, g3, g4, trivial⟩
      have e := treeAt_is (F := .node k y n s c .nil) (m := l.length) ⟨⟨_, _, _, _, _, rfl⟩, hA, hg, by have := Tp.At.len hA; omega⟩
      refine ⟨by rw [e, keyAt_is h0]; rfl, k, y, n, s, c, e, hA, hg, ?_⟩
      rw [Tp.sz_node, Tp.sz_node]; simp
    · obtain ⟨q1, k', y', n', s', c', q2, q3, q4, q5⟩ := plN_keys _ r h2 g5 p hp
      exact ⟨q1, k', y', n', s', c', q2, q3, q4, by rw [Tp.sz_node k y n s c r]; omega⟩
/-- What stands behind the parts that were put, in whatever order. -/
noncomputable def putF (l : List Nd) (ps : List Nat) : Fo := Tp.cat (ps.map fun p => Tp.sT (treeAt l p))
theorem putF_list {l : List Nd} {o : Nat} {c : Fo} (h : Tp.At l o c) (hg : Tp.good c) : putF l (plN o c) = Tp.sT c := by
  unfold putF
  have : (plN o c).map (fun p => Tp.sT (treeAt l p)) = (Tp.trs c).map Tp.sT := by rw [← plN_trees o c h hg, List.map_map]; rfl
  rw [this, ← trs_sT, Tp.cat_trs]
theorem putF_obj {l : List Nd} {o : Nat} {c : Fo} (h : Tp.At l o c) (hg : Tp.good c) (hk : Tp.ko 7 (Tp.keys c)) (qs : List Nat) (hp : qs.Perm (plN o c)) (hs : qs.Pairwise fun a b => Tp.ly (keyAt l b) (keyAt l a) = false) : putF l qs = Tp.cat (Tp.srtL (Tp.trs (Tp.sT c))) := by
  unfold putF
  have hmap : (plN o c).map (fun p => Tp.sT (treeAt l p)) = Tp.trs (Tp.sT c) := by rw [trs_sT, ← plN_trees o c h hg, List.map_map]; rfl
  have hnd : ((Tp.trs (Tp.sT c)).map Tp.kyo).Nodup := by
    rw [← Tp.keys_trs, Tp.sT_keys]
    unfold Tp.ko at hk
    rw [if_pos rfl] at hk
    exact hk.2
  have hperm : (qs.map fun p => Tp.sT (treeAt l p)).Perm (Tp.trs (Tp.sT c)) := hmap ▸ hp.map _
  have hkey : ∀ p ∈ qs, Tp.kyo (Tp.sT (treeAt l p)) = keyAt l p := fun p hpq => by
    obtain ⟨q1, k, y, n, s, c', q2, _⟩ := plN_keys o c h hg p (hp.mem_iff.1 hpq)
    rw [q1, q2]; rfl
  rw [Tp.srtL_eq hnd hperm ?_]
  unfold Tp.Rise
  have hnd2 : (qs.map fun p => keyAt l p).Nodup := by
    have e : (qs.map fun p => keyAt l p) = (qs.map fun p => Tp.sT (treeAt l p)).map Tp.kyo := by
      rw [List.map_map]
      exact List.map_congr_left fun p hp => (hkey p hp).symm
    rw [e]
    exact ((hperm.map Tp.kyo).nodup_iff).2 hnd
  rw [List.pairwise_map]
  unfold List.Nodup at hnd2
  rw [List.pairwise_map] at hnd2
  refine (List.Pairwise.and_mem.1 (hs.and hnd2)).imp fun {a b} hab => ?_
  obtain ⟨ha, hb, h1, h2⟩ := hab
  rw [hkey a ha, hkey b hb]
  cases h3 : Tp.ly (keyAt l a) (keyAt l b) with
  | true => rfl
  | false => exact absurd (Tp.ly_tri h3 h1) h2
end Go.Proofs.YteklcfimafplbaaDoor
